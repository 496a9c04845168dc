/-
  What is left of a file behind a crash.
-/
import Derived.Test.YtebkgcnldbkgeaaDkJ
import Derived.Test.YtebkgcnldbkgeaaPhase
namespace Go.Proofs.Ytebkgcnldbkgeaa
open Go.RowKit Go.Lib Go.Sort Go.Maps
set_option linter.unusedVariables false
set_option linter.unusedSimpArgs false

/-- how many bytes of a file last -/
def lastN4 (kept len : Nat) (pick : Int) : Nat := kept + (min (max pick 0) ((len - kept : Nat) : Int)).toNat
theorem lastN4_le {kept len : Nat} (h : kept ≤ len) (pick : Int) : kept ≤ lastN4 kept len pick ∧ lastN4 kept len pick ≤ len := by unfold lastN4; omega
set_option maxRecDepth 100000 in
set_option maxHeartbeats 4000000 in
theorem after_any (base : Nat) (f : Hd) (pick : Int) (w : World) (hf : FileAt w base f) (hl : f.b.length ≤ 4194304) (p1 : -9223372036854775808 ≤ pick) (p2 : pick ≤ 9223372036854775807) :
    Calls Try.prog 29 #[.pointer (some ⟨f.fb, 0, none⟩), .int .i64 pick] w fun e w' => ∃ v, e = .returned v ∧ Own w' w.heap.size v (f.b.take (lastN4 f.kept f.b.length pick)) ∧ Below w.heap.size w w' := by
  obtain ⟨A, c, hv, hc, hcm⟩ := slice_of_row hf.row
  have hrow := hf.row
  rw [hv] at hrow
  have hbs : Bs w w.heap.size A f.b.length f.b := ⟨rfl, Lies.of_row hrow⟩
  have c0 : w.cell? ⟨f.fb, 0, none⟩ = some (.slice A f.b.length c) := by rw [← hv]; exact cell_of_row _ _ 0 _ _ _ hf.blk
  have c1 : w.cell? ⟨f.fb, 1, none⟩ = some (.int .i64 (f.kept : Int)) := cell_of_row _ _ 1 _ _ _ hf.blk
  have hk := hf.kept
  have hN := lastN4_le hk pick
  have hpk : min (max pick 0) ((f.b.length : Int) - (f.kept : Int)) = (lastN4 f.kept f.b.length pick : Int) - (f.kept : Int) := by unfold lastN4; omega
  generalize lastN4 f.kept f.b.length pick = N at *
  obtain ⟨pk, hpk2⟩ : ∃ pk : Int, (N : Int) - (f.kept : Int) = pk := ⟨_, rfl⟩
  rw [hpk2] at hpk
  have hsum : (f.kept : Int) + pk = (N : Int) := by omega
  have hp3 : 0 ≤ pk := by omega
  have hp4 : pk ≤ 4194304 := by omega
  have HC : Hid (∀ W, Below w.heap.size w W → Calls Try.prog 37 #[.slice A N c] W fun e w' => ∃ v', e = .returned v' ∧ Own w' W.heap.size v' (f.b.take N) ∧ Below W.heap.size W w') := fun W hW => cloneD_any A N c W.heap.size (f.b.take N) W (((hbs.take N hN.2).below hW).wider hW.size) (by omega) (Nat.le_refl _)
  have HBF := Lib.hid hf
  generalize hbl : f.b.length = bl at *
  generalize f.kept = kp at *
  generalize f.fb = fb at *
  have e1 : IntKind.i64.wrap ((bl : Int) - (kp : Int)) = (bl : Int) - (kp : Int) := by rw [IntKind.wrap_i64]; omega
  have e2 : IntKind.i64.wrap ((kp : Int) + pk) = (N : Int) := by rw [IntKind.wrap_i64]; omega
  clear hrow hv hf hbs hbl hsum hpk2
  obtain ⟨mx, hmx⟩ : ∃ mx : Int, max pick 0 = mx := ⟨_, rfl⟩
  rw [hmx] at hpk
  have hmx2 : (if pick < 0 then 0 else pick) = mx := by rw [← hmx]; split <;> omega
  have hpk2 : (if (bl : Int) - (kp : Int) < mx then (bl : Int) - (kp : Int) else mx) = pk := by rw [← hpk]; split <;> omega
  clear hmx hpk
  have hN0 : (0 : Int) ≤ (N : Int) := by omega
  have hNc : (N : Int) ≤ (c : Int) := by omega
  have hkz : (0 : Int) ≤ (kp : Int) := by omega
  have HS2 : Hid (∀ W, Below w.drew.drew.heap.size w.drew.drew W → W.cell? ⟨fb, 0, none⟩ = some (.slice A bl c) ∧ W.cell? ⟨fb, 1, none⟩ = some (.int .i64 (kp : Int))) := fun W hW => ⟨(hW.cell (p := ⟨fb, 0, none⟩) (block_lt_of_cell (w := w) c0)).trans c0, (hW.cell (p := ⟨fb, 1, none⟩) (block_lt_of_cell (w := w) c1)).trans c1⟩
  go_enter Try.func29, Try.ntmps29
  go_upto_region 1 with fail
  -- R1
  refine wp_region_held_drew (S := fun w' => w'.cell? ⟨fb, 0, none⟩ = some (.slice A bl c) ∧ w'.cell? ⟨fb, 1, none⟩ = some (.int .i64 (kp : Int))) (by kernel_rfl) (⟨c0, c1⟩) (fun hHeld => ?_)
  refine wpAnyH_take (i := 0) (oi := _) (v := ?l1v0) rfl (by kernel_rfl) (by kernel_rfl) (by kernel_rfl) (fun _ _ _ h => h) (Or.inl ⟨by rfl, ?l1y0⟩) hHeld ?l1r0
  case l1y0 => (intro w hSw; (try dsimp only at hSw); go_simp; (first | done | with_reducible rfl))
  case l1r0 =>
  (try simp only [Act.put, List.setIfInBounds_toArray, List.set_cons_zero, List.set_cons_succ, List.getElem_toArray, List.getElem_cons_succ, List.getElem_cons_zero])
  refine wpAnyH_take (i := 1) (oi := _) (v := ?l1v1) rfl (by kernel_rfl) (by kernel_rfl) (by kernel_rfl) (fun _ _ _ h => h) (Or.inl ⟨by rfl, ?l1y1⟩) hHeld ?l1r1
  case l1y1 => (intro w hSw; (try dsimp only at hSw); go_simp; (first | done | with_reducible rfl))
  case l1r1 =>
  (try simp only [Act.put, List.setIfInBounds_toArray, List.set_cons_zero, List.set_cons_succ, List.getElem_toArray, List.getElem_cons_succ, List.getElem_cons_zero])
  refine wpAnyH_take (i := 2) (oi := _) (v := ?l1v2) rfl (by kernel_rfl) (by kernel_rfl) (by kernel_rfl) (fun _ _ _ h => h) (Or.inl ⟨by rfl, ?l1y2⟩) hHeld ?l1r2
  case l1y2 => (intro w hSw; (try dsimp only at hSw); go_simp; (first | done | with_reducible rfl))
  case l1r2 =>
  (try simp only [Act.put, List.setIfInBounds_toArray, List.set_cons_zero, List.set_cons_succ, List.getElem_toArray, List.getElem_cons_succ, List.getElem_cons_zero])
  refine wpAnyH_take (i := 3) (oi := _) (v := ?l1v3) rfl (by kernel_rfl) (by kernel_rfl) (by kernel_rfl) (fun _ _ _ h => h) (Or.inl ⟨by rfl, ?l1y3⟩) hHeld ?l1r3
  case l1y3 => (intro w hSw; (try dsimp only at hSw); go_simp; (first | done | with_reducible rfl))
  case l1r3 =>
  (try simp only [Act.put, List.setIfInBounds_toArray, List.set_cons_zero, List.set_cons_succ, List.getElem_toArray, List.getElem_cons_succ, List.getElem_cons_zero])
  refine wpAnyH_take (i := 4) (oi := _) (v := ?l1v4) rfl (by kernel_rfl) (by kernel_rfl) (by kernel_rfl) (fun _ _ _ h => h) (Or.inl ⟨by rfl, ?l1y4⟩) hHeld ?l1r4
  case l1y4 => (intro w hSw; (try dsimp only at hSw); go_simp; (first | done | with_reducible rfl))
  case l1r4 =>
  (try simp only [Act.put, List.setIfInBounds_toArray, List.set_cons_zero, List.set_cons_succ, List.getElem_toArray, List.getElem_cons_succ, List.getElem_cons_zero])
  refine wpAnyH_take (i := 5) (oi := _) (v := ?l1v5) rfl (by kernel_rfl) (by kernel_rfl) (by kernel_rfl) (fun _ _ _ h => h) (Or.inl ⟨by rfl, ?l1y5⟩) hHeld ?l1r5
  case l1y5 => (intro w hSw; (try dsimp only at hSw); go_simp; (first | done | with_reducible rfl))
  case l1r5 =>
  (try simp only [Act.put, List.setIfInBounds_toArray, List.set_cons_zero, List.set_cons_succ, List.getElem_toArray, List.getElem_cons_succ, List.getElem_cons_zero])
  refine wpAnyH_take (i := 6) (oi := _) (v := ?l1v6) rfl (by kernel_rfl) (by kernel_rfl) (by kernel_rfl) (fun _ _ _ h => h) (Or.inl ⟨by rfl, ?l1y6⟩) hHeld ?l1r6
  case l1y6 => (intro w hSw; (try dsimp only at hSw); go_simp; (first | done | with_reducible rfl))
  case l1r6 =>
  (try simp only [Act.put, List.setIfInBounds_toArray, List.set_cons_zero, List.set_cons_succ, List.getElem_toArray, List.getElem_cons_succ, List.getElem_cons_zero])
  refine wpAnyH_take (i := 7) (oi := _) (v := ?l1v7) rfl (by kernel_rfl) (by kernel_rfl) (by kernel_rfl) (fun _ _ _ h => h) (Or.inl ⟨by rfl, ?l1y7⟩) hHeld ?l1r7
  case l1y7 => (intro w hSw; (try dsimp only at hSw); go_simp; (first | done | with_reducible rfl))
  case l1r7 =>
  (try simp only [Act.put, List.setIfInBounds_toArray, List.set_cons_zero, List.set_cons_succ, List.getElem_toArray, List.getElem_cons_succ, List.getElem_cons_zero])
  refine wpAnyH_take (i := 8) (oi := _) (v := ?l1v8) rfl (by kernel_rfl) (by kernel_rfl) (by kernel_rfl) (fun _ _ _ h => h) (Or.inl ⟨by rfl, ?l1y8⟩) hHeld ?l1r8
  case l1y8 => (intro w hSw; (try dsimp only at hSw); go_simp; (first | done | with_reducible rfl))
  case l1r8 =>
  (try simp only [Act.put, List.setIfInBounds_toArray, List.set_cons_zero, List.set_cons_succ, List.getElem_toArray, List.getElem_cons_succ, List.getElem_cons_zero])
  refine wpAnyH_take (i := 9) (oi := _) (v := ?l1v9) rfl (by kernel_rfl) (by kernel_rfl) (by kernel_rfl) (fun _ _ _ h => h) (Or.inl ⟨by rfl, ?l1y9⟩) hHeld ?l1r9
  case l1y9 => (intro w hSw; (try dsimp only at hSw); go_simp; (first | done | with_reducible rfl))
  case l1r9 =>
  (try simp only [Act.put, List.setIfInBounds_toArray, List.set_cons_zero, List.set_cons_succ, List.getElem_toArray, List.getElem_cons_succ, List.getElem_cons_zero])
  refine wpAnyH_take (i := 10) (oi := _) (v := ?l1v10) rfl (by kernel_rfl) (by kernel_rfl) (by kernel_rfl) (fun _ _ _ h => h) (Or.inl ⟨by rfl, ?l1y10⟩) hHeld ?l1r10
  case l1y10 => (intro w hSw; (try dsimp only at hSw); go_simp; (first | done | with_reducible rfl))
  case l1r10 =>
  (try simp only [Act.put, List.setIfInBounds_toArray, List.set_cons_zero, List.set_cons_succ, List.getElem_toArray, List.getElem_cons_succ, List.getElem_cons_zero])
  refine wpAnyH_take (i := 11) (oi := _) (v := ?l1v11) rfl (by kernel_rfl) (by kernel_rfl) (by kernel_rfl) (fun _ _ _ h => h) (Or.inl ⟨by rfl, ?l1y11⟩) hHeld ?l1r11
  case l1y11 => (intro w hSw; (try dsimp only at hSw); go_simp; (first | done | with_reducible rfl))
  case l1r11 =>
  (try simp only [Act.put, List.setIfInBounds_toArray, List.set_cons_zero, List.set_cons_succ, List.getElem_toArray, List.getElem_cons_succ, List.getElem_cons_zero])
  refine wpAnyH_take (i := 12) (oi := _) (v := ?l1v12) rfl (by kernel_rfl) (by kernel_rfl) (by kernel_rfl) (fun _ _ _ h => h) (Or.inl ⟨by rfl, ?l1y12⟩) hHeld ?l1r12
  case l1y12 => (intro w hSw; (try dsimp only at hSw); go_simp; (first | done | with_reducible rfl))
  case l1r12 =>
  (try simp only [Act.put, List.setIfInBounds_toArray, List.set_cons_zero, List.set_cons_succ, List.getElem_toArray, List.getElem_cons_succ, List.getElem_cons_zero])
  refine wpAnyH_take (i := 13) (oi := _) (v := ?l1v13) rfl (by kernel_rfl) (by kernel_rfl) (by kernel_rfl) (fun _ _ _ h => h) (Or.inl ⟨by rfl, ?l1y13⟩) hHeld ?l1r13
  case l1y13 => (intro w hSw; (try dsimp only at hSw); go_simp; (first | done | with_reducible rfl))
  case l1r13 =>
  (try simp only [Act.put, List.setIfInBounds_toArray, List.set_cons_zero, List.set_cons_succ, List.getElem_toArray, List.getElem_cons_succ, List.getElem_cons_zero])
  refine wpAnyH_done (by kernel_rfl) ?_ _
  -- E1
  go_upto_region 2 with fail
  -- R2
  refine wp_region_held_drew (S := fun w' => w'.cell? ⟨fb, 0, none⟩ = some (.slice A bl c) ∧ w'.cell? ⟨fb, 1, none⟩ = some (.int .i64 (kp : Int))) (by kernel_rfl) (⟨c0, c1⟩) (fun hHeld => ?_)
  refine wpAnyH_take (i := 0) (oi := _) (v := ?l2v0) rfl (by kernel_rfl) (by kernel_rfl) (by kernel_rfl) (fun _ _ _ h => h) (Or.inl ⟨by rfl, ?l2y0⟩) hHeld ?l2r0
  case l2y0 => (intro w hSw; (try dsimp only at hSw); go_simp; (first | done | with_reducible rfl))
  case l2r0 =>
  (try simp only [Act.put, List.setIfInBounds_toArray, List.set_cons_zero, List.set_cons_succ, List.getElem_toArray, List.getElem_cons_succ, List.getElem_cons_zero])
  refine wpAnyH_take (i := 1) (oi := _) (v := ?l2v1) rfl (by kernel_rfl) (by kernel_rfl) (by kernel_rfl) (fun _ _ _ h => h) (Or.inl ⟨by rfl, ?l2y1⟩) hHeld ?l2r1
  case l2y1 => (intro w hSw; (try dsimp only at hSw); go_simp; (first | done | with_reducible rfl))
  case l2r1 =>
  (try simp only [Act.put, List.setIfInBounds_toArray, List.set_cons_zero, List.set_cons_succ, List.getElem_toArray, List.getElem_cons_succ, List.getElem_cons_zero])
  refine wpAnyH_take (i := 2) (oi := _) (v := ?l2v2) rfl (by kernel_rfl) (by kernel_rfl) (by kernel_rfl) (fun _ _ _ h => h) (Or.inl ⟨by rfl, ?l2y2⟩) hHeld ?l2r2
  case l2y2 => (intro w hSw; (try dsimp only at hSw); go_simp; (first | done | with_reducible rfl))
  case l2r2 =>
  (try simp only [Act.put, List.setIfInBounds_toArray, List.set_cons_zero, List.set_cons_succ, List.getElem_toArray, List.getElem_cons_succ, List.getElem_cons_zero])
  refine wpAnyH_take (i := 3) (oi := _) (v := ?l2v3) rfl (by kernel_rfl) (by kernel_rfl) (by kernel_rfl) (fun _ _ _ h => h) (Or.inl ⟨by rfl, ?l2y3⟩) hHeld ?l2r3
  case l2y3 => (intro w hSw; (try dsimp only at hSw); go_simp; (first | done | with_reducible rfl))
  case l2r3 =>
  (try simp only [Act.put, List.setIfInBounds_toArray, List.set_cons_zero, List.set_cons_succ, List.getElem_toArray, List.getElem_cons_succ, List.getElem_cons_zero])
  refine wpAnyH_take (i := 4) (oi := _) (v := ?l2v4) rfl (by kernel_rfl) (by kernel_rfl) (by kernel_rfl) (fun _ _ _ h => h) (Or.inl ⟨by rfl, ?l2y4⟩) hHeld ?l2r4
  case l2y4 => (intro w hSw; (try dsimp only at hSw); go_simp; (first | done | with_reducible rfl))
  case l2r4 =>
  (try simp only [Act.put, List.setIfInBounds_toArray, List.set_cons_zero, List.set_cons_succ, List.getElem_toArray, List.getElem_cons_succ, List.getElem_cons_zero])
  refine wpAnyH_take (i := 5) (oi := _) (v := ?l2v5) rfl (by kernel_rfl) (by kernel_rfl) (by kernel_rfl) (fun _ _ _ h => h) (Or.inl ⟨by rfl, ?l2y5⟩) hHeld ?l2r5
  case l2y5 => (intro w hSw; (try dsimp only at hSw); go_simp; (first | done | with_reducible rfl))
  case l2r5 =>
  (try simp only [Act.put, List.setIfInBounds_toArray, List.set_cons_zero, List.set_cons_succ, List.getElem_toArray, List.getElem_cons_succ, List.getElem_cons_zero])
  refine wpAnyH_take (i := 6) (oi := _) (v := ?l2v6) rfl (by kernel_rfl) (by kernel_rfl) (by kernel_rfl) (fun _ _ _ h => h) (Or.inl ⟨by rfl, ?l2y6⟩) hHeld ?l2r6
  case l2y6 => (intro w hSw; (try dsimp only at hSw); go_simp; (first | done | with_reducible rfl))
  case l2r6 =>
  (try simp only [Act.put, List.setIfInBounds_toArray, List.set_cons_zero, List.set_cons_succ, List.getElem_toArray, List.getElem_cons_succ, List.getElem_cons_zero])
  refine wpAnyH_take (i := 7) (oi := _) (v := ?l2v7) rfl (by kernel_rfl) (by kernel_rfl) (by kernel_rfl) (fun _ _ _ h => h) (Or.inl ⟨by rfl, ?l2y7⟩) hHeld ?l2r7
  case l2y7 => (intro w hSw; (try dsimp only at hSw); go_simp; (first | done | with_reducible rfl))
  case l2r7 =>
  (try simp only [Act.put, List.setIfInBounds_toArray, List.set_cons_zero, List.set_cons_succ, List.getElem_toArray, List.getElem_cons_succ, List.getElem_cons_zero])
  refine wpAnyH_take (i := 8) (oi := _) (v := ?l2v8) rfl (by kernel_rfl) (by kernel_rfl) (by kernel_rfl) (fun _ _ _ h => h) (Or.inl ⟨by rfl, ?l2y8⟩) hHeld ?l2r8
  case l2y8 => (intro w hSw; (try dsimp only at hSw); go_simp; (first | done | with_reducible rfl))
  case l2r8 =>
  (try simp only [Act.put, List.setIfInBounds_toArray, List.set_cons_zero, List.set_cons_succ, List.getElem_toArray, List.getElem_cons_succ, List.getElem_cons_zero])
  refine wpAnyH_take (i := 9) (oi := _) (v := ?l2v9) rfl (by kernel_rfl) (by kernel_rfl) (by kernel_rfl) (fun _ _ _ h => h) (Or.inl ⟨by rfl, ?l2y9⟩) hHeld ?l2r9
  case l2y9 => (intro w hSw; (try dsimp only at hSw); go_simp; (first | done | with_reducible rfl))
  case l2r9 =>
  (try simp only [Act.put, List.setIfInBounds_toArray, List.set_cons_zero, List.set_cons_succ, List.getElem_toArray, List.getElem_cons_succ, List.getElem_cons_zero])
  refine wpAnyH_take (i := 10) (oi := _) (v := ?l2v10) rfl (by kernel_rfl) (by kernel_rfl) (by kernel_rfl) (fun _ _ _ h => h) (Or.inl ⟨by rfl, ?l2y10⟩) hHeld ?l2r10
  case l2y10 => (intro w hSw; (try dsimp only at hSw); go_simp; (first | done | with_reducible rfl))
  case l2r10 =>
  (try simp only [Act.put, List.setIfInBounds_toArray, List.set_cons_zero, List.set_cons_succ, List.getElem_toArray, List.getElem_cons_succ, List.getElem_cons_zero])
  refine wpAnyH_ready (rs := [11]) (by kernel_rfl) (by simp) ?_
  refine AllReadyH.cons (o := _) rfl (fun K hK => ?_) AllReadyH.nil
  go_simp
  (go_at_call 37; refine (HC.out _ (((Below.refl w.heap.size w).drew).drew)).mono ?_; rintro e w5 ⟨v5, rfl, ho5, hb5⟩; have s5 := HS2.out w5 hb5)
  go_wp2_with fail
  refine hK.out _ _ ?l2s11 (fun hNow => ?l2r11)
  case l2s11 => exact s5
  case l2r11 =>
  clear hK K hHeld
  have hHeld := hNow
  clear hNow
  (try simp only [Act.put, List.setIfInBounds_toArray, List.set_cons_zero, List.set_cons_succ, List.getElem_toArray, List.getElem_cons_succ, List.getElem_cons_zero])
  refine wpAnyH_take (i := 12) (oi := _) (v := ?l2v12) rfl (by kernel_rfl) (by kernel_rfl) (by kernel_rfl) (fun _ _ _ h => h) (Or.inl ⟨by rfl, ?l2y12⟩) hHeld ?l2r12
  case l2y12 => (intro w hSw; (try dsimp only at hSw); go_simp; (first | done | with_reducible rfl))
  case l2r12 =>
  (try simp only [Act.put, List.setIfInBounds_toArray, List.set_cons_zero, List.set_cons_succ, List.getElem_toArray, List.getElem_cons_succ, List.getElem_cons_zero])
  refine wpAnyH_done (by kernel_rfl) ?_ _
  -- E2
  go_wp2_with fail
  go_ret
  exact ⟨v5, rfl, ho5, (((Below.refl w.heap.size w).drew).drew).trans hb5⟩
end Go.Proofs.Ytebkgcnldbkgeaa
