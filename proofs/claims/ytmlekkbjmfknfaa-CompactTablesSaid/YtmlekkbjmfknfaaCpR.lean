/-
  What alike of chapter 9's statements does, of two lists of the same records; records are what they are.
-/
import Derived.Test.YtmlekkbjmfknfaaCpO
namespace Go.Proofs.Ytmlekkbjmfknfaa
open Go.RowKit Go.Lib Go.Sort
set_option linter.unusedVariables false
set_option linter.unusedSimpArgs false

set_option maxRecDepth 100000 in
theorem neRec9 (k v : ByteArray) (g : Bool) (t : Int) (w : World) : (binOp .neq 79 (.agg #[.string k, .string v, .bool g, .int .i64 t]) (.agg #[.string k, .string v, .bool g, .int .i64 t])).run Try.prog w = .ok (.bool false) w := by
  have u3 := Try.underlying9
  have u2 := Try.underlying2
  have u1 := Try.underlying4
  have a3 := Try.isAgg9
  have z3 := Try.sizeOf9
  have a2 := Try.isAgg2
  have z2 := Try.sizeOf2
  have a1 := Try.isAgg4
  have z1 := Try.sizeOf4
  have hS : Try.prog.underlying 79 = some (.struct (Try.prog.fieldsOf 79)) := by kernel_rfl
  have hp : Try.prog.stoodInHeld 79 = false := by kernel_rfl
  rw [run_neq_struct, show (10000 : Nat) = 9999 + 1 from rfl, run_equalIn_agg w 9999 79 _ _ hS hp]
  simp only [Program.fieldsOf, Try.underlying79]
  go_simp
set_option maxRecDepth 100000 in
set_option maxHeartbeats 4000000 in
theorem alike_any (A A' : Option Addr) (n c c' : Nat) (L : List AtC) (w : World) (h : Acs w w.heap.size A n L) (h' : Acs w w.heap.size A' n L) (hn : n ≤ 1000000) :
    Calls Try.prog 40 #[.slice A n c, .slice A' n c'] w fun e w' => e = .returned (.bool true) ∧ Below w.heap.size w w' := by
  have HL := Lib.hid h
  have HL' := Lib.hid h'
  clear h h'
  go_enter Try.func40, Try.ntmps40
  go_wp2_with fail
  go_loopw [13] (fun i wr => ∃ k : Nat, k ≤ n ∧ i = .int .i64 k ∧ Hid (Below w.heap.size w wr)) (fun i _ => n - (RowKit.intOf i).toNat)
  case atStart => exact ⟨0, by omega, rfl, Below.refl _ _⟩
  case round =>
    obtain ⟨k, hk, rfl, HB⟩ := hrel
    by_cases hlt : k < n
    · obtain ⟨p, rfl, hp, r0, r1, r2, r3, r4⟩ := (HL.out.below HB.out).row hlt
      obtain ⟨p', rfl, hp', s0, s1, s2, s3, s4⟩ := (HL'.out.below HB.out).row hlt
      generalize L.getD k default = re at *
      obtain ⟨off, key, value, gone, time⟩ := re
      simp only at r0 r1 r2 r3 r4 s0 s1 s2 s3 s4
      have hne := fun w => neRec9 key value gone time w
      have g0 := cell_regrown r0
      have g1 := cell_regrown r1
      have g2 := cell_regrown r2
      have g3 := cell_regrown r3
      have g4 := cell_regrown r4
      have f0 := cell_regrown s0
      have f1 := cell_regrown s1
      have f2 := cell_regrown s2
      have f3 := cell_regrown s3
      have f4 := cell_regrown s4
      have hkz : (k : Int) < (n : Int) := by omega
      clear r0 r1 r2 r3 r4 s0 s1 s2 s3 s4
      go_wp2_with fail
      refine wp_region_quiet_below (by kernel_rfl) (by kernel_rfl) ?_
      repeat (go_big_quiet_step (fail))
      refine wpQuiet_nil ?_
      intro _ hw'
      obtain ⟨⟨dq, osq⟩, hw''⟩ := hw'
      subst hw''
      have HB2 := Lib.hid (HB.out.trans ((below_regrown wr dq osq).mono HB.out.size))
      go_wp2_with fail
      go_roundw
      case rel => exact ⟨k + 1, by omega, by go_num, HB2⟩
      case measure => simp [RowKit.intOf]; omega
    · have d8 : decide ((k : Int) < (n : Int)) = false := by rw [decide_eq_false_iff_not]; omega
      go_wp2_with fail
      go_ret
      exact ⟨rfl, HB.out⟩
end Go.Proofs.Ytmlekkbjmfknfaa
