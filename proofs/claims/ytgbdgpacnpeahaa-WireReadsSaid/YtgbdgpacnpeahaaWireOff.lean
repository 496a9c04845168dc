/-
  What the reader's calls do where there is no reader, and where there is an error.
-/
import Derived.Test.YtgbdgpacnpeahaaWireNew
namespace Go.Proofs.Ytgbdgpacnpeahaa
open Go.RowKit
set_option linter.unusedVariables false
set_option linter.unusedSimpArgs false
theorem below_one (w : World) (a : Obj) : Below w.heap.size w (w.alloc a) := (Below.refl _ _).alloc (Nat.le_refl _) a
theorem below_two (w : World) (a b : Obj) : Below w.heap.size w ((w.alloc a).alloc b) := (below_one w a).alloc (by simp) b
theorem below_three (w : World) (a b d : Obj) : Below w.heap.size w (((w.alloc a).alloc b).alloc d) := (below_two w a b).alloc (by simp; omega) d

set_option maxRecDepth 100000 in
set_option maxHeartbeats 400000 in
theorem nUint (w : World) : Calls Try.prog 47 #[.pointer none] w fun e w' => e = .returned (.int .u64 0) ∧ Below w.heap.size w w' := by
  go_enter Try.func47, Try.ntmps47
  go_wp2_with go_in
  go_ret
  exact ⟨rfl, below_one _ _⟩
set_option maxRecDepth 100000 in
set_option maxHeartbeats 400000 in
theorem eUint (g c p err : Nat) (A : Option Addr) (l : List UInt8) (w : World) (h : Rd w g A c l p err) (he : 0 < err) : Calls Try.prog 47 #[.pointer (some ⟨g, 0, none⟩)] w fun e w' => e = .returned (.int .u64 0) ∧ Below w.heap.size w w' := by
  have c2 := h.c2
  have hlt := h.lt
  have hne : ((err : Int) != 0) = true := by rw [bne_iff_ne]; omega
  clear h
  go_enter Try.func47, Try.ntmps47
  go_wp2_with go_in
  go_ret
  exact ⟨rfl, below_one _ _⟩

set_option maxRecDepth 100000 in
set_option maxHeartbeats 400000 in
theorem nInt (w : World) : Calls Try.prog 48 #[.pointer none] w fun e w' => e = .returned (.int .i64 0) ∧ Below w.heap.size w w' := by
  go_enter Try.func48, Try.ntmps48
  go_wp2_with go_in
  go_ret
  exact ⟨rfl, below_one _ _⟩
set_option maxRecDepth 100000 in
set_option maxHeartbeats 400000 in
theorem eInt (g c p err : Nat) (A : Option Addr) (l : List UInt8) (w : World) (h : Rd w g A c l p err) (he : 0 < err) : Calls Try.prog 48 #[.pointer (some ⟨g, 0, none⟩)] w fun e w' => e = .returned (.int .i64 0) ∧ Below w.heap.size w w' := by
  have c2 := h.c2
  have hlt := h.lt
  have hne : ((err : Int) != 0) = true := by rw [bne_iff_ne]; omega
  clear h
  go_enter Try.func48, Try.ntmps48
  go_wp2_with go_in
  go_ret
  exact ⟨rfl, below_one _ _⟩

set_option maxRecDepth 100000 in
set_option maxHeartbeats 400000 in
theorem nFlag (w : World) : Calls Try.prog 50 #[.pointer none] w fun e w' => e = .returned (.bool false) ∧ Below w.heap.size w w' := by
  go_enter Try.func50, Try.ntmps50
  go_wp2_with go_in
  go_ret
  exact ⟨rfl, below_one _ _⟩
set_option maxRecDepth 100000 in
set_option maxHeartbeats 400000 in
theorem eFlag (g c p err : Nat) (A : Option Addr) (l : List UInt8) (w : World) (h : Rd w g A c l p err) (he : 0 < err) : Calls Try.prog 50 #[.pointer (some ⟨g, 0, none⟩)] w fun e w' => e = .returned (.bool false) ∧ Below w.heap.size w w' := by
  have c2 := h.c2
  have hlt := h.lt
  have hne : ((err : Int) != 0) = true := by rw [bne_iff_ne]; omega
  clear h
  go_enter Try.func50, Try.ntmps50
  go_wp2_with go_in
  go_ret
  exact ⟨rfl, below_one _ _⟩

set_option maxRecDepth 100000 in
set_option maxHeartbeats 400000 in
theorem nByte (w : World) : Calls Try.prog 68 #[.pointer none] w fun e w' => e = .returned (.int .i64 0) ∧ Below w.heap.size w w' := by
  go_enter Try.func68, Try.ntmps68
  go_wp2_with go_in
  go_ret
  exact ⟨rfl, below_one _ _⟩
set_option maxRecDepth 100000 in
set_option maxHeartbeats 400000 in
theorem eByte (g c p err : Nat) (A : Option Addr) (l : List UInt8) (w : World) (h : Rd w g A c l p err) (he : 0 < err) : Calls Try.prog 68 #[.pointer (some ⟨g, 0, none⟩)] w fun e w' => e = .returned (.int .i64 0) ∧ Below w.heap.size w w' := by
  have c2 := h.c2
  have hlt := h.lt
  have hne : ((err : Int) != 0) = true := by rw [bne_iff_ne]; omega
  clear h
  go_enter Try.func68, Try.ntmps68
  go_wp2_with go_in
  go_ret
  exact ⟨rfl, below_one _ _⟩

set_option maxRecDepth 100000 in
set_option maxHeartbeats 400000 in
theorem nRest (w : World) : Calls Try.prog 70 #[.pointer none] w fun e w' => e = .returned (.slice none 0 0) ∧ Below w.heap.size w w' := by
  go_enter Try.func70, Try.ntmps70
  go_wp2_with go_in
  go_ret
  exact ⟨rfl, below_one _ _⟩
set_option maxRecDepth 100000 in
set_option maxHeartbeats 400000 in
theorem eRest (g c p err : Nat) (A : Option Addr) (l : List UInt8) (w : World) (h : Rd w g A c l p err) (he : 0 < err) : Calls Try.prog 70 #[.pointer (some ⟨g, 0, none⟩)] w fun e w' => e = .returned (.slice none 0 0) ∧ Below w.heap.size w w' := by
  have c2 := h.c2
  have hlt := h.lt
  have hne : ((err : Int) != 0) = true := by rw [bne_iff_ne]; omega
  clear h
  go_enter Try.func70, Try.ntmps70
  go_wp2_with go_in
  go_ret
  exact ⟨rfl, below_one _ _⟩

set_option maxRecDepth 100000 in
set_option maxHeartbeats 400000 in
theorem nText (m : Int) (w : World) : Calls Try.prog 49 #[.pointer none, .int .i64 m] w fun e w' => e = .returned (.string ⟨#[]⟩) ∧ Below w.heap.size w w' := by
  go_enter Try.func49, Try.ntmps49
  go_wp2_with go_in
  go_ret
  exact ⟨rfl, below_two _ _ _⟩
set_option maxRecDepth 100000 in
set_option maxHeartbeats 400000 in
theorem eText (g c p err : Nat) (A : Option Addr) (l : List UInt8) (m : Int) (w : World) (h : Rd w g A c l p err) (he : 0 < err) : Calls Try.prog 49 #[.pointer (some ⟨g, 0, none⟩), .int .i64 m] w fun e w' => e = .returned (.string ⟨#[]⟩) ∧ Below w.heap.size w w' := by
  have c2 := h.c2
  have hlt := h.lt
  have hne : ((err : Int) != 0) = true := by rw [bne_iff_ne]; omega
  clear h
  go_enter Try.func49, Try.ntmps49
  go_wp2_with go_in
  go_ret
  exact ⟨rfl, below_two _ _ _⟩

set_option maxRecDepth 100000 in
set_option maxHeartbeats 400000 in
theorem nBytes (m : Int) (w : World) : Calls Try.prog 66 #[.pointer none, .int .i64 m] w fun e w' => e = .returned (.slice none 0 0) ∧ Below w.heap.size w w' := by
  go_enter Try.func66, Try.ntmps66
  go_wp2_with go_in
  go_ret
  exact ⟨rfl, below_two _ _ _⟩
set_option maxRecDepth 100000 in
set_option maxHeartbeats 400000 in
theorem eBytes (g c p err : Nat) (A : Option Addr) (l : List UInt8) (m : Int) (w : World) (h : Rd w g A c l p err) (he : 0 < err) : Calls Try.prog 66 #[.pointer (some ⟨g, 0, none⟩), .int .i64 m] w fun e w' => e = .returned (.slice none 0 0) ∧ Below w.heap.size w w' := by
  have c2 := h.c2
  have hlt := h.lt
  have hne : ((err : Int) != 0) = true := by rw [bne_iff_ne]; omega
  clear h
  go_enter Try.func66, Try.ntmps66
  go_wp2_with go_in
  go_ret
  exact ⟨rfl, below_two _ _ _⟩

set_option maxRecDepth 100000 in
set_option maxHeartbeats 400000 in
theorem nInts (m : Int) (w : World) : Calls Try.prog 54 #[.pointer none, .int .i64 m] w fun e w' => e = .returned (.slice none 0 0) ∧ Below w.heap.size w w' := by
  go_enter Try.func54, Try.ntmps54
  go_wp2_with go_in
  go_ret
  exact ⟨rfl, below_two _ _ _⟩
set_option maxRecDepth 100000 in
set_option maxHeartbeats 400000 in
theorem eInts (g c p err : Nat) (A : Option Addr) (l : List UInt8) (m : Int) (w : World) (h : Rd w g A c l p err) (he : 0 < err) : Calls Try.prog 54 #[.pointer (some ⟨g, 0, none⟩), .int .i64 m] w fun e w' => e = .returned (.slice none 0 0) ∧ Below w.heap.size w w' := by
  have c2 := h.c2
  have hlt := h.lt
  have hne : ((err : Int) != 0) = true := by rw [bne_iff_ne]; omega
  clear h
  go_enter Try.func54, Try.ntmps54
  go_wp2_with go_in
  go_ret
  exact ⟨rfl, below_two _ _ _⟩

set_option maxRecDepth 100000 in
set_option maxHeartbeats 400000 in
theorem nTexts (m : Int) (n : Int) (w : World) : Calls Try.prog 52 #[.pointer none, .int .i64 m, .int .i64 n] w fun e w' => e = .returned (.slice none 0 0) ∧ Below w.heap.size w w' := by
  go_enter Try.func52, Try.ntmps52
  go_wp2_with go_in
  go_ret
  exact ⟨rfl, below_three _ _ _ _⟩
set_option maxRecDepth 100000 in
set_option maxHeartbeats 400000 in
theorem eTexts (g c p err : Nat) (A : Option Addr) (l : List UInt8) (m : Int) (n : Int) (w : World) (h : Rd w g A c l p err) (he : 0 < err) : Calls Try.prog 52 #[.pointer (some ⟨g, 0, none⟩), .int .i64 m, .int .i64 n] w fun e w' => e = .returned (.slice none 0 0) ∧ Below w.heap.size w w' := by
  have c2 := h.c2
  have hlt := h.lt
  have hne : ((err : Int) != 0) = true := by rw [bne_iff_ne]; omega
  have c3 : ∀ a b d : Obj, (((w.alloc a).alloc b).alloc d).cell? ⟨g, 2, none⟩ = some (.int .i64 (err : Int)) := fun a b d => by rw [World.cell?_alloc_lt _ _ _ (by simp; omega), World.cell?_alloc_lt _ _ _ (by simp; omega), World.cell?_alloc_lt _ _ _ hlt]; exact c2
  clear h
  go_enter Try.func52, Try.ntmps52
  go_wp2_with go_in
  go_ret
  exact ⟨rfl, below_three _ _ _ _⟩

set_option maxRecDepth 100000 in
set_option maxHeartbeats 400000 in
theorem nWithin (m : Int) (n : Int) (w : World) : Calls Try.prog 64 #[.pointer none, .int .i64 m, .int .i64 n] w fun e w' => e = .returned (.int .i64 0) ∧ Below w.heap.size w w' := by
  go_enter Try.func64, Try.ntmps64
  go_wp2_with go_in
  go_ret
  exact ⟨rfl, below_three _ _ _ _⟩
set_option maxRecDepth 100000 in
set_option maxHeartbeats 400000 in
theorem eWithin (g c p err : Nat) (A : Option Addr) (l : List UInt8) (m : Int) (n : Int) (w : World) (h : Rd w g A c l p err) (he : 0 < err) : Calls Try.prog 64 #[.pointer (some ⟨g, 0, none⟩), .int .i64 m, .int .i64 n] w fun e w' => e = .returned (.int .i64 0) ∧ Below w.heap.size w w' := by
  have c2 := h.c2
  have hlt := h.lt
  have hne : ((err : Int) != 0) = true := by rw [bne_iff_ne]; omega
  have c3 : ∀ a b d : Obj, (((w.alloc a).alloc b).alloc d).cell? ⟨g, 2, none⟩ = some (.int .i64 (err : Int)) := fun a b d => by rw [World.cell?_alloc_lt _ _ _ (by simp; omega), World.cell?_alloc_lt _ _ _ (by simp; omega), World.cell?_alloc_lt _ _ _ hlt]; exact c2
  clear h
  go_enter Try.func64, Try.ntmps64
  go_wp2_with go_in
  go_ret
  exact ⟨rfl, below_three _ _ _ _⟩

set_option maxHeartbeats 400000 in
theorem nAt (w : World) : Calls Try.prog 14 #[.pointer none] w fun e w' => e = .returned (.int .i64 0) ∧ Below w.heap.size w w' := by
  go_enter Try.func14, Try.ntmps14
  go_wp2_with go_in
  go_ret
  exact ⟨rfl, Below.refl _ _⟩

set_option maxHeartbeats 400000 in
theorem nLeft (w : World) : Calls Try.prog 13 #[.pointer none] w fun e w' => e = .returned (.int .i64 0) ∧ Below w.heap.size w w' := by
  go_enter Try.func13, Try.ntmps13
  go_wp2_with go_in
  go_ret
  exact ⟨rfl, Below.refl _ _⟩

set_option maxHeartbeats 400000 in
theorem nErr (w : World) : Calls Try.prog 12 #[.pointer none] w fun e w' => e = .returned (.int .i64 1) ∧ Below w.heap.size w w' := by
  go_enter Try.func12, Try.ntmps12
  go_wp2_with go_in
  go_ret
  exact ⟨rfl, Below.refl _ _⟩

set_option maxHeartbeats 400000 in
theorem nEnd (w : World) : Calls Try.prog 15 #[.pointer none] w fun e w' => e = .returned (.int .i64 1) ∧ Below w.heap.size w w' := by
  go_enter Try.func15, Try.ntmps15
  go_wp2_with go_in
  go_ret
  exact ⟨rfl, Below.refl _ _⟩

end Go.Proofs.Ytgbdgpacnpeahaa
