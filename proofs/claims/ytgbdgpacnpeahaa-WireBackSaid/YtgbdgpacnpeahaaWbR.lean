/-
  What the law's read does with bytes that its item was told by.
-/
import Derived.Test.YtgbdgpacnpeahaaWbM
namespace Go.Proofs.Ytgbdgpacnpeahaa
open Go.RowKit Go.Lib Go.Sort
set_option linter.unusedVariables false
set_option linter.unusedSimpArgs false

/-- a reader's call has gone on -/
def ReadP (w : World) (g c : Nat) (A : Option Addr) (l : List UInt8) (q : Nat) (e : Ending) (w' : World) : Prop := e = .returned (.bool true) ∧ Rd w' g A c l q 0 ∧ w.grownBy w' (some g)
theorem grown_below1 {w w' : World} {B g : Nat} (hb : Below B w w') (h : w.heap.size ≤ B) : w.grownBy w' (some g) := ⟨hb.os, hb.tape, hb.output, hb.size, fun k hk _ => hb.block k (by omega)⟩
set_option maxRecDepth 100000 in
set_option maxHeartbeats 4000000 in
theorem read_0 (g c p : Nat) (A : Option Addr) (l r : List UInt8) (u : Nat) (n m : Int) (s : ByteArray) (on : Bool) (LV IV : Value) (w : World) (h : Rd w g A c l p 0) (hu : u < 18446744073709551616) (hd : l.drop p = Wn.enc u ++ r) :
    Calls Try.prog 11 #[.pointer (some ⟨g, 0, none⟩), .agg #[.int .i64 0, .int .u64 (u : Int), .int .i64 n, .int .i64 m, .string s, .bool on, LV, IV]] w (ReadP w g c A l (p + (Wn.enc u).length)) := by
  obtain ⟨X, hX⟩ : ∃ X : Ending → World → Prop, ReadP w g c A l (p + (Wn.enc u).length) = X := ⟨_, rfl⟩
  have HX : Hid (∀ w', Rd w' g A c l (p + (Wn.enc u).length) 0 → w.grownBy w' (some g) → X (.returned (.bool true)) w') := fun w' h1 h2 => by rw [← hX]; exact ⟨rfl, h1, h2⟩
  rw [hX]
  clear hX
  have HPC : Hid (∀ W, Rd W g A c l p 0 → Calls Try.prog 47 #[.pointer (some ⟨g, 0, none⟩)] W fun e w' => e = .returned (.int .u64 (u : Int)) ∧ Rd w' g A c l (p + (Wn.enc u).length) 0 ∧ W.grownBy w' (some g)) := fun W hW => by
    have := pU_any hW
    rw [uR_back hu hd] at this
    exact this
  generalize p + (Wn.enc u).length = q at *
  clear hd
  have hB5 : Below w.heap.size w (w.alloc (.cells #[.int .i64 0, .int .u64 (u : Int), .int .i64 n, .int .i64 m, .string s, .bool on, LV, IV] 28)) := (Below.refl _ _).alloc (Nat.le_refl _) _
  have hN5 := heap_alloc_new w (.cells #[.int .i64 0, .int .u64 (u : Int), .int .i64 n, .int .i64 m, .string s, .bool on, LV, IV] 28)
  obtain ⟨w5, hw5⟩ : ∃ w5, w.alloc (.cells #[.int .i64 0, .int .u64 (u : Int), .int .i64 n, .int .i64 m, .string s, .bool on, LV, IV] 28) = w5 := ⟨_, rfl⟩
  rw [hw5] at hB5 hN5
  have HW5 := Lib.hid hw5
  have hl5 := (Array.getElem?_eq_some_iff.1 hN5).1
  have hga := h.lt
  have hng : w.heap.size ≠ g := by omega
  have HD := Lib.hid (h.below hB5 hga)
  have HB5 := Lib.hid hB5
  have k0 : w5.cell? ⟨w.heap.size, 0, none⟩ = some (.int .i64 0) := cell_of_row _ _ 0 _ _ _ hN5
  have kx : w5.cell? ⟨w.heap.size, 1, none⟩ = some (.int .u64 (u : Int)) := cell_of_row _ _ 1 _ _ _ hN5
  clear hw5 hB5 hN5 h
  go_enter Try.func11, Try.ntmps11
  go_upto_region 1 with fail
  rw [HW5.out]
  go_upto_region 3 with fail
  clear k0
  go_region_held3 (fun w' => w'.cell? ⟨w.heap.size, 1, none⟩ = some (.int .u64 (u : Int))) (first | exact kx | exact x3 | go_keep)
    (first | (go_at_call 47; refine (HPC.out _ HD.out.drew).mono ?_; rintro e w6 ⟨rfl, hr6, hg6⟩; have x3 := (hg6.cell_far ⟨w.heap.size, 1, none⟩ hl5 (fun e => by injection e with e; exact hng e)).trans kx))
  all_goals
    have HE := Lib.hid (HX.out w6 hr6 (((grown_below1 HB5.out (Nat.le_refl _)).trans (grown_below1 ((Below.refl _ _).drew) (Nat.le_refl _))).trans hg6))
    go_wp2_with fail
    first | exact HE.out | (go_ret; exact HE.out)
set_option maxRecDepth 100000 in
set_option maxHeartbeats 4000000 in
theorem read_1 (g c p : Nat) (A : Option Addr) (l r : List UInt8) (u : Nat) (n m : Int) (s : ByteArray) (on : Bool) (LV IV : Value) (w : World) (h : Rd w g A c l p 0) (h1 : -9223372036854775808 ≤ n) (h2 : n ≤ 9223372036854775807) (hd : l.drop p = Wn.enc (Wn.zig n) ++ r) :
    Calls Try.prog 11 #[.pointer (some ⟨g, 0, none⟩), .agg #[.int .i64 1, .int .u64 (u : Int), .int .i64 n, .int .i64 m, .string s, .bool on, LV, IV]] w (ReadP w g c A l (p + (Wn.enc (Wn.zig n)).length)) := by
  obtain ⟨X, hX⟩ : ∃ X : Ending → World → Prop, ReadP w g c A l (p + (Wn.enc (Wn.zig n)).length) = X := ⟨_, rfl⟩
  have HX : Hid (∀ w', Rd w' g A c l (p + (Wn.enc (Wn.zig n)).length) 0 → w.grownBy w' (some g) → X (.returned (.bool true)) w') := fun w' h1 h2 => by rw [← hX]; exact ⟨rfl, h1, h2⟩
  rw [hX]
  clear hX
  have HPC : Hid (∀ W, Rd W g A c l p 0 → Calls Try.prog 48 #[.pointer (some ⟨g, 0, none⟩)] W fun e w' => e = .returned (.int .i64 n) ∧ Rd w' g A c l (p + (Wn.enc (Wn.zig n)).length) 0 ∧ W.grownBy w' (some g)) := fun W hW => by
    have := pI_any hW
    rw [iR_back h1 h2 hd] at this
    exact this
  generalize p + (Wn.enc (Wn.zig n)).length = q at *
  clear hd
  have hB5 : Below w.heap.size w (w.alloc (.cells #[.int .i64 1, .int .u64 (u : Int), .int .i64 n, .int .i64 m, .string s, .bool on, LV, IV] 28)) := (Below.refl _ _).alloc (Nat.le_refl _) _
  have hN5 := heap_alloc_new w (.cells #[.int .i64 1, .int .u64 (u : Int), .int .i64 n, .int .i64 m, .string s, .bool on, LV, IV] 28)
  obtain ⟨w5, hw5⟩ : ∃ w5, w.alloc (.cells #[.int .i64 1, .int .u64 (u : Int), .int .i64 n, .int .i64 m, .string s, .bool on, LV, IV] 28) = w5 := ⟨_, rfl⟩
  rw [hw5] at hB5 hN5
  have HW5 := Lib.hid hw5
  have hl5 := (Array.getElem?_eq_some_iff.1 hN5).1
  have hga := h.lt
  have hng : w.heap.size ≠ g := by omega
  have HD := Lib.hid (h.below hB5 hga)
  have HB5 := Lib.hid hB5
  have k0 : w5.cell? ⟨w.heap.size, 0, none⟩ = some (.int .i64 1) := cell_of_row _ _ 0 _ _ _ hN5
  have kx : w5.cell? ⟨w.heap.size, 2, none⟩ = some (.int .i64 n) := cell_of_row _ _ 2 _ _ _ hN5
  clear hw5 hB5 hN5 h
  go_enter Try.func11, Try.ntmps11
  go_upto_region 1 with fail
  rw [HW5.out]
  go_upto_region 5 with fail
  clear k0
  go_region_held3 (fun w' => w'.cell? ⟨w.heap.size, 2, none⟩ = some (.int .i64 n)) (first | exact kx | exact x3 | go_keep)
    (first | (go_at_call 48; refine (HPC.out _ HD.out.drew).mono ?_; rintro e w6 ⟨rfl, hr6, hg6⟩; have x3 := (hg6.cell_far ⟨w.heap.size, 2, none⟩ hl5 (fun e => by injection e with e; exact hng e)).trans kx))
  all_goals
    have HE := Lib.hid (HX.out w6 hr6 (((grown_below1 HB5.out (Nat.le_refl _)).trans (grown_below1 ((Below.refl _ _).drew) (Nat.le_refl _))).trans hg6))
    go_wp2_with fail
    first | exact HE.out | (go_ret; exact HE.out)
set_option maxRecDepth 100000 in
set_option maxHeartbeats 4000000 in
theorem read_2 (g c p : Nat) (A : Option Addr) (l r : List UInt8) (u : Nat) (n m : Int) (s : ByteArray) (on : Bool) (LV IV : Value) (w : World) (h : Rd w g A c l p 0) (hs : s.size ≤ 1099511627776) (hd : l.drop p = encT s ++ r) :
    Calls Try.prog 11 #[.pointer (some ⟨g, 0, none⟩), .agg #[.int .i64 2, .int .u64 (u : Int), .int .i64 n, .int .i64 m, .string s, .bool on, LV, IV]] w (ReadP w g c A l (p + (encT s).length)) := by
  obtain ⟨X, hX⟩ : ∃ X : Ending → World → Prop, ReadP w g c A l (p + (encT s).length) = X := ⟨_, rfl⟩
  have HX : Hid (∀ w', Rd w' g A c l (p + (encT s).length) 0 → w.grownBy w' (some g) → X (.returned (.bool true)) w') := fun w' h1 h2 => by rw [← hX]; exact ⟨rfl, h1, h2⟩
  rw [hX]
  clear hX
  have HPC : Hid (∀ W, Rd W g A c l p 0 → Calls Try.prog 49 #[.pointer (some ⟨g, 0, none⟩), .int .i64 (s.size : Int)] W fun e w' => e = .returned (.string s) ∧ Rd w' g A c l (p + (encT s).length) 0 ∧ W.grownBy w' (some g)) := fun W hW => by
    have := pT_any (s.size : Int) (by omega) (by omega) hW
    rw [textR_back hs (Int.le_refl _) hd] at this
    exact this
  generalize p + (encT s).length = q at *
  clear hd
  have hB5 : Below w.heap.size w (w.alloc (.cells #[.int .i64 2, .int .u64 (u : Int), .int .i64 n, .int .i64 m, .string s, .bool on, LV, IV] 28)) := (Below.refl _ _).alloc (Nat.le_refl _) _
  have hN5 := heap_alloc_new w (.cells #[.int .i64 2, .int .u64 (u : Int), .int .i64 n, .int .i64 m, .string s, .bool on, LV, IV] 28)
  obtain ⟨w5, hw5⟩ : ∃ w5, w.alloc (.cells #[.int .i64 2, .int .u64 (u : Int), .int .i64 n, .int .i64 m, .string s, .bool on, LV, IV] 28) = w5 := ⟨_, rfl⟩
  rw [hw5] at hB5 hN5
  have HW5 := Lib.hid hw5
  have hl5 := (Array.getElem?_eq_some_iff.1 hN5).1
  have hga := h.lt
  have hng : w.heap.size ≠ g := by omega
  have HD := Lib.hid (h.below hB5 hga)
  have HB5 := Lib.hid hB5
  have k0 : w5.cell? ⟨w.heap.size, 0, none⟩ = some (.int .i64 2) := cell_of_row _ _ 0 _ _ _ hN5
  have kx : w5.cell? ⟨w.heap.size, 4, none⟩ = some (.string s) := cell_of_row _ _ 4 _ _ _ hN5
  clear hw5 hB5 hN5 h
  go_enter Try.func11, Try.ntmps11
  go_upto_region 1 with fail
  rw [HW5.out]
  go_upto_region 7 with fail
  clear k0
  go_region_held3 (fun w' => w'.cell? ⟨w.heap.size, 4, none⟩ = some (.string s)) (first | exact kx | exact x3 | go_keep)
    (first | (go_at_call 49; refine (HPC.out _ HD.out.drew).mono ?_; rintro e w6 ⟨rfl, hr6, hg6⟩; have x3 := (hg6.cell_far ⟨w.heap.size, 4, none⟩ hl5 (fun e => by injection e with e; exact hng e)).trans kx))
  all_goals
    have HE := Lib.hid (HX.out w6 hr6 (((grown_below1 HB5.out (Nat.le_refl _)).trans (grown_below1 ((Below.refl _ _).drew) (Nat.le_refl _))).trans hg6))
    go_wp2_with fail
    first | exact HE.out | (go_ret; exact HE.out)
set_option maxRecDepth 100000 in
set_option maxHeartbeats 4000000 in
theorem read_3 (g c p : Nat) (A : Option Addr) (l r : List UInt8) (u : Nat) (n m : Int) (s : ByteArray) (on : Bool) (LV IV : Value) (w : World) (h : Rd w g A c l p 0)  (hd : l.drop p = encF_ on ++ r) :
    Calls Try.prog 11 #[.pointer (some ⟨g, 0, none⟩), .agg #[.int .i64 3, .int .u64 (u : Int), .int .i64 n, .int .i64 m, .string s, .bool on, LV, IV]] w (ReadP w g c A l (p + 1)) := by
  obtain ⟨X, hX⟩ : ∃ X : Ending → World → Prop, ReadP w g c A l (p + 1) = X := ⟨_, rfl⟩
  have HX : Hid (∀ w', Rd w' g A c l (p + 1) 0 → w.grownBy w' (some g) → X (.returned (.bool true)) w') := fun w' h1 h2 => by rw [← hX]; exact ⟨rfl, h1, h2⟩
  rw [hX]
  clear hX
  have HPC : Hid (∀ W, Rd W g A c l p 0 → Calls Try.prog 50 #[.pointer (some ⟨g, 0, none⟩)] W fun e w' => e = .returned (.bool on) ∧ Rd w' g A c l (p + 1) 0 ∧ W.grownBy w' (some g)) := fun W hW => by
    have := pF_any hW
    rw [flagR_back hd] at this
    exact this
  generalize p + 1 = q at *
  clear hd
  have hB5 : Below w.heap.size w (w.alloc (.cells #[.int .i64 3, .int .u64 (u : Int), .int .i64 n, .int .i64 m, .string s, .bool on, LV, IV] 28)) := (Below.refl _ _).alloc (Nat.le_refl _) _
  have hN5 := heap_alloc_new w (.cells #[.int .i64 3, .int .u64 (u : Int), .int .i64 n, .int .i64 m, .string s, .bool on, LV, IV] 28)
  obtain ⟨w5, hw5⟩ : ∃ w5, w.alloc (.cells #[.int .i64 3, .int .u64 (u : Int), .int .i64 n, .int .i64 m, .string s, .bool on, LV, IV] 28) = w5 := ⟨_, rfl⟩
  rw [hw5] at hB5 hN5
  have HW5 := Lib.hid hw5
  have hl5 := (Array.getElem?_eq_some_iff.1 hN5).1
  have hga := h.lt
  have hng : w.heap.size ≠ g := by omega
  have HD := Lib.hid (h.below hB5 hga)
  have HB5 := Lib.hid hB5
  have k0 : w5.cell? ⟨w.heap.size, 0, none⟩ = some (.int .i64 3) := cell_of_row _ _ 0 _ _ _ hN5
  have kx : w5.cell? ⟨w.heap.size, 5, none⟩ = some (.bool on) := cell_of_row _ _ 5 _ _ _ hN5
  clear hw5 hB5 hN5 h
  go_enter Try.func11, Try.ntmps11
  go_upto_region 1 with fail
  rw [HW5.out]
  go_upto_region 9 with fail
  clear k0
  go_region_held3 (fun w' => w'.cell? ⟨w.heap.size, 5, none⟩ = some (.bool on)) (first | exact kx | exact x3 | go_keep)
    (first | (go_at_call 50; refine (HPC.out _ HD.out.drew).mono ?_; rintro e w6 ⟨rfl, hr6, hg6⟩; have x3 := (hg6.cell_far ⟨w.heap.size, 5, none⟩ hl5 (fun e => by injection e with e; exact hng e)).trans kx))
  all_goals
    have HE := Lib.hid (HX.out w6 hr6 (((grown_below1 HB5.out (Nat.le_refl _)).trans (grown_below1 ((Below.refl _ _).drew) (Nat.le_refl _))).trans hg6))
    go_wp2_with fail
    first | exact HE.out | (go_ret; exact HE.out)
set_option maxRecDepth 100000 in
set_option maxHeartbeats 4000000 in
theorem read_4 (g c p : Nat) (A LA : Option Addr) (lc : Nat) (l r : List UInt8) (u : Nat) (n m : Int) (s : ByteArray) (on : Bool) (L : List ByteArray) (V : Value) (w : World) (h : Rd w g A c l p 0) (hL : ∀ s ∈ L, s.size ≤ 60) (hl : L.length ≤ 1048576) (hi : ∀ W, w.grownBy W (some g) → Lies W W.heap.size LA (L.map .string)) (hd : l.drop p = (Wn.enc L.length ++ encTs L) ++ r) :
    Calls Try.prog 11 #[.pointer (some ⟨g, 0, none⟩), .agg #[.int .i64 4, .int .u64 (u : Int), .int .i64 n, .int .i64 m, .string s, .bool on, .slice LA L.length lc, V]] w (ReadP w g c A l (p + ((Wn.enc L.length ++ encTs L)).length)) := by
  obtain ⟨X, hX⟩ : ∃ X : Ending → World → Prop, ReadP w g c A l (p + ((Wn.enc L.length ++ encTs L)).length) = X := ⟨_, rfl⟩
  have HX : Hid (∀ w', Rd w' g A c l (p + ((Wn.enc L.length ++ encTs L)).length) 0 → w.grownBy w' (some g) → X (.returned (.bool true)) w') := fun w' h1 h2 => by rw [← hX]; exact ⟨rfl, h1, h2⟩
  rw [hX]
  clear hX
  have HPC : Hid (∀ W, Rd W g A c l p 0 → Calls Try.prog 52 #[.pointer (some ⟨g, 0, none⟩), .int .i64 (L.length : Int), .int .i64 60] W fun e w' => ∃ v, e = .returned v ∧ w'.ownsRow W.heap.size 9 1 v L.length (L.map Value.string) ∧ Rd w' g A c l (p + ((Wn.enc L.length ++ encTs L)).length) 0 ∧ W.grownBy w' (some g)) := fun W hW => by
    have := pTs_any (L.length : Int) 60 (by omega) (by omega) (by omega) (by omega) hW
    simp only [textsR_back hL hl hd, map_encS, List.length_map] at this
    exact this
  have HLL : Hid (L.length ≤ 1099511627776) := by show _ ≤ _; omega
  have HLI : Hid (∀ W, w.grownBy W (some g) → Lies W W.heap.size LA (L.map Value.string)) := Lib.hid hi
  have HSM : Hid (∀ A A' c c' W, Lies W W.heap.size A (L.map Value.string) → Lies W W.heap.size A' (L.map Value.string) → Calls Try.prog 51 #[.slice A L.length c, .slice A' L.length c'] W fun e w' => e = .returned (.bool true) ∧ Below W.heap.size W w') := fun A A' c c' W h1 h2 => by have := sameS_any A A' c c' _ (L.map (fun s => s.data.toList)) W (by rw [map_encS]; exact h1) (by rw [map_encS]; exact h2) (by rw [List.length_map]; exact HLL.out); rw [List.length_map] at this; exact this
  have hln := HLL.out
  generalize p + ((Wn.enc L.length ++ encTs L)).length = q at *
  clear hd hl
  generalize L.map Value.string = LV at *
  generalize L.length = ln at *
  have hB5 : Below w.heap.size w (w.alloc (.cells #[.int .i64 4, .int .u64 (u : Int), .int .i64 n, .int .i64 m, .string s, .bool on, .slice LA ln lc, V] 28)) := (Below.refl _ _).alloc (Nat.le_refl _) _
  have hN5 := heap_alloc_new w (.cells #[.int .i64 4, .int .u64 (u : Int), .int .i64 n, .int .i64 m, .string s, .bool on, .slice LA ln lc, V] 28)
  obtain ⟨w5, hw5⟩ : ∃ w5, w.alloc (.cells #[.int .i64 4, .int .u64 (u : Int), .int .i64 n, .int .i64 m, .string s, .bool on, .slice LA ln lc, V] 28) = w5 := ⟨_, rfl⟩
  rw [hw5] at hB5 hN5
  have HW5 := Lib.hid hw5
  have hl5 := (Array.getElem?_eq_some_iff.1 hN5).1
  have hga := h.lt
  have hng : w.heap.size ≠ g := by omega
  have hg5 : g < w5.heap.size := by have := hB5.size; omega
  have HD := Lib.hid (h.below hB5 hga)
  have HB5 := Lib.hid hB5
  have k0 : w5.cell? ⟨w.heap.size, 0, none⟩ = some (.int .i64 4) := cell_of_row _ _ 0 _ _ _ hN5
  have kx : w5.cell? ⟨w.heap.size, 6, none⟩ = some (.slice LA ln lc) := cell_of_row _ _ 6 _ _ _ hN5
  clear hw5 hB5 hN5 h
  go_enter Try.func11, Try.ntmps11
  go_upto_region 1 with fail
  rw [HW5.out]
  go_upto_region 11 with fail
  clear k0
  go_region_held3 (fun w' => w'.cell? ⟨w.heap.size, 6, none⟩ = some (.slice LA ln lc)) (first | exact kx | exact x3 | exact z3 | go_keep)
    (first
      | (go_at_call 52; refine (HPC.out _ HD.out.drew).mono ?_; rintro e w6 ⟨v6, rfl, ho6, hr6, hg6⟩; have x3 := (hg6.cell_far ⟨w.heap.size, 6, none⟩ hl5 (fun e => by injection e with e; exact hng e)).trans kx; obtain ⟨A6, c6, rfl, _, _⟩ := row_anyW ho6; have li6 := lies_rowM ho6; have li7 : Lies w6 w6.heap.size LA LV := HLI.out w6 (((grown_below1 HB5.out (Nat.le_refl _)).trans (grown_below1 ((Below.refl _ _).drew) (Nat.le_refl _))).trans hg6))
      | (go_at_call 51; refine (HSM.out _ _ _ _ _ li6 li7).mono ?_; rintro e w8 ⟨rfl, hb8⟩; have z3 := (hb8.cell (p := ⟨w.heap.size, 6, none⟩) (Nat.lt_of_lt_of_le hl5 hg6.size)).trans x3))
  all_goals
    have HE := Lib.hid (HX.out w8 (hr6.below hb8 (Nat.lt_of_lt_of_le hg5 hg6.size)) ((((grown_below1 HB5.out (Nat.le_refl _)).trans (grown_below1 ((Below.refl _ _).drew) (Nat.le_refl _))).trans hg6).trans (grown_below1 hb8 (Nat.le_refl _))))
    go_wp2_with fail
    first | exact HE.out | (go_ret; exact HE.out)
set_option maxRecDepth 100000 in
set_option maxHeartbeats 4000000 in
theorem read_5 (g c p : Nat) (A LA : Option Addr) (lc : Nat) (l r : List UInt8) (u : Nat) (n m : Int) (s : ByteArray) (on : Bool) (L : List Int) (V : Value) (w : World) (h : Rd w g A c l p 0) (hL : ∀ x ∈ L, -9223372036854775808 ≤ x ∧ x ≤ 9223372036854775807) (hl : L.length ≤ 1048576) (hi : ∀ W, w.grownBy W (some g) → Lies W W.heap.size LA (L.map encI)) (hd : l.drop p = (Wn.enc L.length ++ told_ L L.length) ++ r) :
    Calls Try.prog 11 #[.pointer (some ⟨g, 0, none⟩), .agg #[.int .i64 5, .int .u64 (u : Int), .int .i64 n, .int .i64 m, .string s, .bool on, V, .slice LA L.length lc]] w (ReadP w g c A l (p + ((Wn.enc L.length ++ told_ L L.length)).length)) := by
  obtain ⟨X, hX⟩ : ∃ X : Ending → World → Prop, ReadP w g c A l (p + ((Wn.enc L.length ++ told_ L L.length)).length) = X := ⟨_, rfl⟩
  have HX : Hid (∀ w', Rd w' g A c l (p + ((Wn.enc L.length ++ told_ L L.length)).length) 0 → w.grownBy w' (some g) → X (.returned (.bool true)) w') := fun w' h1 h2 => by rw [← hX]; exact ⟨rfl, h1, h2⟩
  rw [hX]
  clear hX
  have HPC : Hid (∀ W, Rd W g A c l p 0 → Calls Try.prog 54 #[.pointer (some ⟨g, 0, none⟩), .int .i64 (L.length : Int)] W fun e w' => ∃ v, e = .returned v ∧ w'.ownsRow W.heap.size 2 1 v L.length (L.map encI) ∧ Rd w' g A c l (p + ((Wn.enc L.length ++ told_ L L.length)).length) 0 ∧ W.grownBy w' (some g)) := fun W hW => by
    have := pIs_any (L.length : Int) (by omega) (by omega) hW
    simp only [intsR_back hL hl hd] at this
    exact this
  have HLL : Hid (L.length ≤ 1099511627776) := by show _ ≤ _; omega
  have HLI : Hid (∀ W, w.grownBy W (some g) → Lies W W.heap.size LA (L.map encI)) := Lib.hid hi
  have HSM : Hid (∀ A A' c c' W, Lies W W.heap.size A (L.map encI) → Lies W W.heap.size A' (L.map encI) → Calls Try.prog 53 #[.slice A L.length c, .slice A' L.length c'] W fun e w' => e = .returned (.bool true) ∧ Below W.heap.size W w') := fun A A' c c' W h1 h2 => sameI_any A A' c c' _ L W h1 h2 HLL.out
  have hln := HLL.out
  generalize p + ((Wn.enc L.length ++ told_ L L.length)).length = q at *
  clear hd hl
  generalize L.map encI = LV at *
  generalize L.length = ln at *
  have hB5 : Below w.heap.size w (w.alloc (.cells #[.int .i64 5, .int .u64 (u : Int), .int .i64 n, .int .i64 m, .string s, .bool on, V, .slice LA ln lc] 28)) := (Below.refl _ _).alloc (Nat.le_refl _) _
  have hN5 := heap_alloc_new w (.cells #[.int .i64 5, .int .u64 (u : Int), .int .i64 n, .int .i64 m, .string s, .bool on, V, .slice LA ln lc] 28)
  obtain ⟨w5, hw5⟩ : ∃ w5, w.alloc (.cells #[.int .i64 5, .int .u64 (u : Int), .int .i64 n, .int .i64 m, .string s, .bool on, V, .slice LA ln lc] 28) = w5 := ⟨_, rfl⟩
  rw [hw5] at hB5 hN5
  have HW5 := Lib.hid hw5
  have hl5 := (Array.getElem?_eq_some_iff.1 hN5).1
  have hga := h.lt
  have hng : w.heap.size ≠ g := by omega
  have hg5 : g < w5.heap.size := by have := hB5.size; omega
  have HD := Lib.hid (h.below hB5 hga)
  have HB5 := Lib.hid hB5
  have k0 : w5.cell? ⟨w.heap.size, 0, none⟩ = some (.int .i64 5) := cell_of_row _ _ 0 _ _ _ hN5
  have kx : w5.cell? ⟨w.heap.size, 7, none⟩ = some (.slice LA ln lc) := cell_of_row _ _ 7 _ _ _ hN5
  clear hw5 hB5 hN5 h
  go_enter Try.func11, Try.ntmps11
  go_upto_region 1 with fail
  rw [HW5.out]
  go_upto_region 13 with fail
  clear k0
  go_region_held3 (fun w' => w'.cell? ⟨w.heap.size, 7, none⟩ = some (.slice LA ln lc)) (first | exact kx | exact x3 | exact z3 | go_keep)
    (first
      | (go_at_call 54; refine (HPC.out _ HD.out.drew).mono ?_; rintro e w6 ⟨v6, rfl, ho6, hr6, hg6⟩; have x3 := (hg6.cell_far ⟨w.heap.size, 7, none⟩ hl5 (fun e => by injection e with e; exact hng e)).trans kx; obtain ⟨A6, c6, rfl, _, _⟩ := row_anyW ho6; have li6 := lies_rowM ho6; have li7 : Lies w6 w6.heap.size LA LV := HLI.out w6 (((grown_below1 HB5.out (Nat.le_refl _)).trans (grown_below1 ((Below.refl _ _).drew) (Nat.le_refl _))).trans hg6))
      | (go_at_call 53; refine (HSM.out _ _ _ _ _ li6 li7).mono ?_; rintro e w8 ⟨rfl, hb8⟩; have z3 := (hb8.cell (p := ⟨w.heap.size, 7, none⟩) (Nat.lt_of_lt_of_le hl5 hg6.size)).trans x3))
  all_goals
    have HE := Lib.hid (HX.out w8 (hr6.below hb8 (Nat.lt_of_lt_of_le hg5 hg6.size)) ((((grown_below1 HB5.out (Nat.le_refl _)).trans (grown_below1 ((Below.refl _ _).drew) (Nat.le_refl _))).trans hg6).trans (grown_below1 hb8 (Nat.le_refl _))))
    go_wp2_with fail
    first | exact HE.out | (go_ret; exact HE.out)
end Go.Proofs.Ytgbdgpacnpeahaa
