/-
  What Append does.
-/
import Derived.Test.YtebkgcnldbkgeaaDkH
import Derived.Test.YtebkgcnldbkgeaaPhase
namespace Go.Proofs.Ytebkgcnldbkgeaa
open Go.RowKit Go.Lib Go.Sort Go.Maps
set_option linter.unusedVariables false
set_option linter.unusedSimpArgs false

/-- what Append's inner part answers -/
def appE4 (D : Dsk) (s : ByteArray) (x : Nat) : Nat := if nameB s = false then 2 else if freeD D < x ∨ ((D.at_ s).isNone = true ∧ 128 ≤ D.H.length) then 5 else 0
/-- nothing but the files differs -/
structure SameD (D D' : Dsk) : Prop where
  room : D'.room = D.room
  set : D'.set = D.set
  left : D'.left = D.left
theorem len_map (base d : Nat) (D : Dsk) (w : World) (h : Dk w base d D) (ty : TypeId) : (Builtin.len_ #[55] ty #[.map D.mp]).run Try.prog w = .ok (.int .i64 (D.H.length : Int)) w := by
  cases hm : D.mp with
  | none =>
    have := Maps.len_nil (P := Try.prog) (w := w) (k := 9) (e := 60) Try.underlying55 ty
    rw [h.mp0 hm]
    simpa using this
  | some m => exact (h.mp1 m hm).2.len (e := 60) Try.underlying55 ty
theorem eql_ptr_none (w : World) : (binOp .eql 60 (.pointer none) (.pointer none)).run Try.prog w = .ok (.bool true) w := by
  have u := Try.underlying60
  go_simp
theorem eql_ptr_some (a : Addr) (w : World) : (binOp .eql 60 (.pointer (some a)) (.pointer none)).run Try.prog w = .ok (.bool false) w := by
  have u := Try.underlying60
  go_simp
set_option maxRecDepth 100000 in
set_option maxHeartbeats 8000000 in
/-- the loop that adds the parts, and what is ahead of it: a file is there -/
theorem append1_any (base d nb db pb : Nat) (D : Dsk) (s : ByteArray) (A : Option Addr) (n c : Nat) (L : List (List UInt8)) (w : World) (h : Dk w base d D) (hb : base ≤ w.heap.size) (hs : s.size ≤ 1099511627776) (hn : n ≤ maxLen)
    (x0 : w.cell? ⟨nb, 0, none⟩ = some (.string s)) (x1 : w.cell? ⟨db, 0, none⟩ = some (.pointer (some ⟨d, 0, none⟩))) (x2 : w.cell? ⟨pb, 0, none⟩ = some (.slice A n c)) (hout : ∀ k, k = nb ∨ k = db ∨ k = pb → k < w.heap.size ∧ k ∉ D.foot d)
    (hL : ∀ W, Turn (D.foot d) w W → Rs W W.heap.size A n L) :
    Calls Try.prog 52 #[.pointer (some ⟨nb, 0, none⟩), .pointer (some ⟨db, 0, none⟩), .pointer (some ⟨pb, 0, none⟩)] w fun e w' => e = .returned (.int .i64 (appE4 D s (tot L) : Int)) ∧ ∃ D', Then base d w w' D D' ∧ SameD D D' ∧ filesD D' = if appE4 D s (tot L) = 0 then addF s L.flatten (mkF s (filesD D)) else filesD D := by
  obtain ⟨i0, qi0, qz0, qz1, qz2⟩ := info_parts byte_info
  obtain ⟨X, hX⟩ : ∃ X : Ending → World → Prop, (fun e w' => e = .returned (.int .i64 (appE4 D s (tot L) : Int)) ∧ ∃ D', Then base d w w' D D' ∧ SameD D D' ∧ filesD D' = if appE4 D s (tot L) = 0 then addF s L.flatten (mkF s (filesD D)) else filesD D) = X := ⟨_, rfl⟩
  have HXN : Hid (∀ (er : Nat) w', er = appE4 D s (tot L) → er ≠ 0 → Then base d w w' D D → X (.returned (.int .i64 (er : Int))) w') := fun er w' h1 h2 h3 => by rw [← hX]; exact ⟨by rw [h1], D, h3, ⟨rfl, rfl, rfl⟩, by rw [← h1, if_neg h2]⟩
  have HXY : Hid (∀ D' w', appE4 D s (tot L) = 0 → Then base d w w' D D' → SameD D D' → filesD D' = addF s L.flatten (mkF s (filesD D)) → X (.returned (.int .i64 0)) w') := fun D' w' h1 h2 h3 h4 => by rw [← hX]; exact ⟨by rw [h1]; rfl, D', h2, h3, by rw [h1, if_pos rfl]; exact h4⟩
  rw [hX]
  clear hX
  have HD := Lib.hid h
  have HLL := Lib.hid (hL w (Turn.refl _ _)).len
  have HNM := Lib.hid (name_any s w hs)
  have HFI := Lib.hid (file_any base d D s w h (by unfold maxLen; omega))
  have HFR : Hid (∀ W, Below w.heap.size w W → Calls Try.prog 21 #[.pointer (some ⟨d, 0, none⟩)] W fun e w' => e = .returned (.int .i64 (freeD D : Int)) ∧ Below W.heap.size W w') := fun W hW => free_any base d D W (h.below hW (Nat.le_refl _))
  have hfr : freeD D ≤ 4194304 := by unfold freeD; have := h.r2; omega
  have HFT : Hid (∀ W, Below w.heap.size w W → Calls Try.prog 54 #[.int .i64 (freeD D : Int), .slice A n c] W fun e w' => e = .returned (.bool (decide (tot L ≤ freeD D))) ∧ w' = W) := fun W hW => fits_any (freeD D) n c W.heap.size A L W (hL W (Turn.of_below hW)) hfr hn
  have HLN : Hid (∀ W, Below w.heap.size w W → ∀ ty, (Builtin.len_ #[55] ty #[.map D.mp]).run Try.prog W = .ok (.int .i64 (D.H.length : Int)) W) := fun W hW ty => len_map base d D W (h.below hW (Nat.le_refl _)) ty
  have c0 := h.c0
  have hdl := h.dlt
  have hl128 := h.len
  unfold maxLen at hn
  have HO := Lib.hid hout
  have hnl := (hout nb (.inl rfl)).1
  have hdbl := (hout db (.inr (.inl rfl))).1
  have hpl := (hout pb (.inr (.inr rfl))).1
  have HL := Lib.hid hL
  clear hL h hout
  cases hnm : nameB s with
  | false =>
    have HE : Hid (appE4 D s (tot L) = 2) := by show _ = _; unfold appE4; rw [if_pos hnm]
    rw [hnm] at HNM
    clear hnm
    go_enter Try.func52, Try.ntmps52
    go_wp2_with (go_at_call 53; (with_reducible refine HNM.out.mono ?_); rintro e w1 ⟨rfl, hw1⟩; have hw1' := hw1.symm; subst hw1')
    first
      | exact HXN.out 2 w HE.out.symm (by omega) (Then.refl HD.out)
      | (go_ret; exact HXN.out 2 w HE.out.symm (by omega) (Then.refl HD.out))
  | true =>
    rw [hnm] at HNM
    have HNM2 := Lib.hid hnm
    clear hnm
    obtain ⟨fo, hfo⟩ : ∃ fo, D.at_ s = fo := ⟨_, rfl⟩
    rw [hfo] at HFI
    have HFO := Lib.hid hfo
    clear hfo
    go_enter Try.func52, Try.ntmps52
    go_upto_region 4 with (first
      | (go_at_call 53; (with_reducible refine HNM.out.mono ?_); rintro e w1 ⟨rfl, hw1⟩; have hw1' := hw1.symm; subst hw1')
      | (go_at_call 28; (with_reducible refine HFI.out.mono ?_); rintro e w1 ⟨rfl, hw1⟩; have hw1' := hw1.symm; subst hw1'))
    have HSB : Hid (∀ W, Below w.heap.size w W → W.cell? ⟨nb, 0, none⟩ = some (.string s) ∧ W.cell? ⟨db, 0, none⟩ = some (.pointer (some ⟨d, 0, none⟩)) ∧ W.cell? ⟨pb, 0, none⟩ = some (.slice A n c) ∧ W.cell? ⟨d, 0, none⟩ = some (.map D.mp) ∧ (∀ ty, (Builtin.len_ #[55] ty #[.map D.mp]).run Try.prog W = .ok (.int .i64 (D.H.length : Int)) W)) := fun W hW => ⟨(hW.cell (p := ⟨nb, 0, none⟩) hnl).trans x0, (hW.cell (p := ⟨db, 0, none⟩) hdbl).trans x1, (hW.cell (p := ⟨pb, 0, none⟩) hpl).trans x2, (hW.cell (p := ⟨d, 0, none⟩) hdl).trans c0, HLN.out W hW⟩
    obtain ⟨cb, hcb⟩ : ∃ cb, (decide (freeD D < tot L) || (fo.isNone && decide (128 ≤ D.H.length))) = cb := ⟨_, rfl⟩
    have HCB := Lib.hid hcb
    have hlen2 := HD.out.len
    go_cut [29] (fun s29 wx => s29 = .bool cb ∧ Below w.heap.size w wx)
    case first =>
      have s0 := HSB.out w.drew ((Below.refl _ _).drew)
      have hways : (tot L ≤ freeD D ∧ (∃ f, fo = some f) ∧ cb = false) ∨ (tot L ≤ freeD D ∧ fo = none ∧ 128 ≤ D.H.length ∧ cb = true) ∨ (tot L ≤ freeD D ∧ fo = none ∧ ¬ 128 ≤ D.H.length ∧ cb = false) ∨ (¬ tot L ≤ freeD D ∧ cb = true) := by
        by_cases h1 : tot L ≤ freeD D
        · have e1 : decide (freeD D < tot L) = false := by rw [decide_eq_false_iff_not]; omega
          rw [e1] at hcb
          cases fo with
          | some f => exact .inl ⟨h1, ⟨f, rfl⟩, by rw [← hcb]; rfl⟩
          | none =>
            by_cases h2 : 128 ≤ D.H.length
            · exact .inr (.inl ⟨h1, rfl, h2, by rw [← hcb, decide_eq_true h2]; rfl⟩)
            · exact .inr (.inr (.inl ⟨h1, rfl, h2, by rw [← hcb, decide_eq_false h2]; rfl⟩))
        · have e1 : decide (freeD D < tot L) = true := by rw [decide_eq_true_iff]; omega
          rw [e1] at hcb
          exact .inr (.inr (.inr ⟨h1, by rw [← hcb]; rfl⟩))
      clear hcb
      have hd128 : ∀ b, decide (128 ≤ D.H.length) = b → decide ((128 : Int) ≤ (D.H.length : Int)) = b := fun b hb => by
        rw [← hb]
        by_cases h2 : 128 ≤ D.H.length
        · rw [decide_eq_true h2, decide_eq_true_iff]; omega
        · rw [decide_eq_false h2, decide_eq_false_iff_not]; omega
      rcases hways with ⟨h1, ⟨f, rfl⟩, rfl⟩ | ⟨h1, rfl, h2, rfl⟩ | ⟨h1, rfl, h2, rfl⟩ | ⟨h1, rfl⟩
      · have hdf : decide (tot L ≤ freeD D) = true := decide_eq_true h1
        rw [hdf] at HFT
        clear hdf h1 hd128
        unfold ptrO Hd.ptr at *
        simp only at *
        generalize (D.H.length : Int) = dl at *
        -- R4a
        refine wp_region_held_drew (S := fun w' => w'.cell? ⟨nb, 0, none⟩ = some (.string s) ∧ w'.cell? ⟨db, 0, none⟩ = some (.pointer (some ⟨d, 0, none⟩)) ∧ w'.cell? ⟨pb, 0, none⟩ = some (.slice A n c) ∧ w'.cell? ⟨d, 0, none⟩ = some (.map D.mp) ∧ (∀ ty, (Builtin.len_ #[55] ty #[.map D.mp]).run Try.prog w' = .ok (.int .i64 dl) w')) (by kernel_rfl) (s0) (fun hHeld => ?_)
        refine wpAnyH_take (i := 0) (oi := _) (v := ?q4av0) rfl (by kernel_rfl) (by kernel_rfl) (by kernel_rfl) (fun _ _ _ h => h) (Or.inl ⟨by rfl, ?q4ay0⟩) hHeld ?q4ar0
        case q4ay0 => (intro w hSw; (try dsimp only at hSw); go_simp; (first | done | with_reducible rfl))
        case q4ar0 =>
        (try simp only [Act.put, List.setIfInBounds_toArray, List.set_cons_zero, List.set_cons_succ, List.getElem_toArray, List.getElem_cons_succ, List.getElem_cons_zero])
        refine wpAnyH_take (i := 2) (oi := _) (v := ?q4av2) rfl (by kernel_rfl) (by kernel_rfl) (by kernel_rfl) (fun _ _ _ h => h) (Or.inl ⟨by rfl, ?q4ay2⟩) hHeld ?q4ar2
        case q4ay2 => (intro w hSw; (try dsimp only at hSw); go_simp; (first | done | with_reducible rfl))
        case q4ar2 =>
        (try simp only [Act.put, List.setIfInBounds_toArray, List.set_cons_zero, List.set_cons_succ, List.getElem_toArray, List.getElem_cons_succ, List.getElem_cons_zero])
        refine wpAnyH_ready (rs := [1]) (by kernel_rfl) (by simp) ?_
        refine AllReadyH.cons (o := _) rfl (fun K hK => ?_) AllReadyH.nil
        go_simp
        (go_at_call 21; refine (HFR.out w.drew ((Below.refl _ _).drew)).mono ?_; rintro e w2 ⟨rfl, hb2⟩; have hb02 : Below w.heap.size w w2 := ((Below.refl w.heap.size w).drew).trans hb2; have s2 := HSB.out w2 hb02)
        go_wp2_with fail
        refine hK.out _ _ ?q4as1 (fun hNow => ?q4ar1)
        case q4as1 => exact s2
        case q4ar1 =>
        clear hK K hHeld
        have hHeld := hNow
        clear hNow
        (try simp only [Act.put, List.setIfInBounds_toArray, List.set_cons_zero, List.set_cons_succ, List.getElem_toArray, List.getElem_cons_succ, List.getElem_cons_zero])
        refine wpAnyH_ready (rs := [3]) (by kernel_rfl) (by simp) ?_
        refine AllReadyH.cons (o := _) rfl (fun K hK => ?_) AllReadyH.nil
        go_simp
        (go_at_call 54; refine (HFT.out w2 hb02).mono ?_; rintro e w3 ⟨rfl, hw3⟩; have hw3' := hw3.symm; subst hw3'; clear hw3)
        go_wp2_with fail
        refine hK.out _ _ ?q4as3 (fun hNow => ?q4ar3)
        case q4as3 => exact s2
        case q4ar3 =>
        clear hK K hHeld
        have hHeld := hNow
        clear hNow
        (try simp only [Act.put, List.setIfInBounds_toArray, List.set_cons_zero, List.set_cons_succ, List.getElem_toArray, List.getElem_cons_succ, List.getElem_cons_zero])
        refine wpAnyH_take (i := 4) (oi := _) (v := ?q4av4) rfl (by kernel_rfl) (by kernel_rfl) (by kernel_rfl) (fun _ _ _ h => h) (Or.inl ⟨by rfl, ?q4ay4⟩) hHeld ?q4ar4
        case q4ay4 => (intro w hSw; (try dsimp only at hSw); go_simp; (first | done | with_reducible rfl))
        case q4ar4 =>
        (try simp only [Act.put, List.setIfInBounds_toArray, List.set_cons_zero, List.set_cons_succ, List.getElem_toArray, List.getElem_cons_succ, List.getElem_cons_zero])
        refine wpAnyH_take (i := 5) (oi := _) (v := ?q4av5) rfl (by kernel_rfl) (by kernel_rfl) (by kernel_rfl) (fun _ _ _ h => h) (Or.inl ⟨by rfl, ?q4ay5⟩) hHeld ?q4ar5
        case q4ay5 => (intro w hSw; (try dsimp only at hSw); go_simp; (first | done | with_reducible rfl))
        case q4ar5 =>
        (try simp only [Act.put, List.setIfInBounds_toArray, List.set_cons_zero, List.set_cons_succ, List.getElem_toArray, List.getElem_cons_succ, List.getElem_cons_zero])
        refine wpAnyH_take (i := 6) (oi := _) (v := ?q4av6) rfl (by kernel_rfl) (by kernel_rfl) (by kernel_rfl) (fun _ _ _ h => h) (Or.inl ⟨by rfl, ?q4ay6⟩) hHeld ?q4ar6
        case q4ay6 => (intro w hSw; (try dsimp only at hSw); go_simp; (first | done | with_reducible rfl))
        case q4ar6 =>
        (try simp only [Act.put, List.setIfInBounds_toArray, List.set_cons_zero, List.set_cons_succ, List.getElem_toArray, List.getElem_cons_succ, List.getElem_cons_zero])
        refine wpAnyH_take (i := 7) (oi := _) (v := ?q4av7) rfl (by kernel_rfl) (by kernel_rfl) (by kernel_rfl) (fun _ _ _ h => h) (Or.inl ⟨by rfl, ?q4ay7⟩) hHeld ?q4ar7
        case q4ay7 => (intro w hSw; (try dsimp only at hSw); go_simp; (first | done | with_reducible rfl))
        case q4ar7 =>
        (try simp only [Act.put, List.setIfInBounds_toArray, List.set_cons_zero, List.set_cons_succ, List.getElem_toArray, List.getElem_cons_succ, List.getElem_cons_zero])
        refine wpAnyH_take (i := 8) (oi := _) (v := ?q4av8) rfl (by kernel_rfl) (by kernel_rfl) (by kernel_rfl) (fun _ _ _ h => h) (Or.inl ⟨by rfl, ?q4ay8⟩) hHeld ?q4ar8
        case q4ay8 => (intro w hSw; (try dsimp only at hSw); go_simp; (first | done | with_reducible rfl))
        case q4ar8 =>
        (try simp only [Act.put, List.setIfInBounds_toArray, List.set_cons_zero, List.set_cons_succ, List.getElem_toArray, List.getElem_cons_succ, List.getElem_cons_zero])
        refine wpAnyH_take (i := 9) (oi := _) (v := undef) rfl (by kernel_rfl) (by kernel_rfl) (by kernel_rfl) (fun _ _ _ h => h) (Or.inr ⟨by rfl, rfl⟩) hHeld ?q4ar9
        case q4ar9 =>
        (try simp only [Act.put, List.setIfInBounds_toArray, List.set_cons_zero, List.set_cons_succ, List.getElem_toArray, List.getElem_cons_succ, List.getElem_cons_zero])
        refine wpAnyH_take (i := 10) (oi := _) (v := undef) rfl (by kernel_rfl) (by kernel_rfl) (by kernel_rfl) (fun _ _ _ h => h) (Or.inr ⟨by rfl, rfl⟩) hHeld ?q4ar10
        case q4ar10 =>
        (try simp only [Act.put, List.setIfInBounds_toArray, List.set_cons_zero, List.set_cons_succ, List.getElem_toArray, List.getElem_cons_succ, List.getElem_cons_zero])
        refine wpAnyH_take (i := 11) (oi := _) (v := undef) rfl (by kernel_rfl) (by kernel_rfl) (by kernel_rfl) (fun _ _ _ h => h) (Or.inr ⟨by rfl, rfl⟩) hHeld ?q4ar11
        case q4ar11 =>
        (try simp only [Act.put, List.setIfInBounds_toArray, List.set_cons_zero, List.set_cons_succ, List.getElem_toArray, List.getElem_cons_succ, List.getElem_cons_zero])
        refine wpAnyH_take (i := 12) (oi := _) (v := undef) rfl (by kernel_rfl) (by kernel_rfl) (by kernel_rfl) (fun _ _ _ h => h) (Or.inr ⟨by rfl, rfl⟩) hHeld ?q4ar12
        case q4ar12 =>
        (try simp only [Act.put, List.setIfInBounds_toArray, List.set_cons_zero, List.set_cons_succ, List.getElem_toArray, List.getElem_cons_succ, List.getElem_cons_zero])
        refine wpAnyH_take (i := 13) (oi := _) (v := undef) rfl (by kernel_rfl) (by kernel_rfl) (by kernel_rfl) (fun _ _ _ h => h) (Or.inr ⟨by rfl, rfl⟩) hHeld ?q4ar13
        case q4ar13 =>
        (try simp only [Act.put, List.setIfInBounds_toArray, List.set_cons_zero, List.set_cons_succ, List.getElem_toArray, List.getElem_cons_succ, List.getElem_cons_zero])
        refine wpAnyH_take (i := 14) (oi := _) (v := undef) rfl (by kernel_rfl) (by kernel_rfl) (by kernel_rfl) (fun _ _ _ h => h) (Or.inr ⟨by rfl, rfl⟩) hHeld ?q4ar14
        case q4ar14 =>
        (try simp only [Act.put, List.setIfInBounds_toArray, List.set_cons_zero, List.set_cons_succ, List.getElem_toArray, List.getElem_cons_succ, List.getElem_cons_zero])
        refine wpAnyH_take (i := 15) (oi := _) (v := ?q4av15) rfl (by kernel_rfl) (by kernel_rfl) (by kernel_rfl) (fun _ _ _ h => h) (Or.inl ⟨by rfl, ?q4ay15⟩) hHeld ?q4ar15
        case q4ay15 => (intro w hSw; (try dsimp only at hSw); go_simp; (first | done | with_reducible rfl))
        case q4ar15 =>
        (try simp only [Act.put, List.setIfInBounds_toArray, List.set_cons_zero, List.set_cons_succ, List.getElem_toArray, List.getElem_cons_succ, List.getElem_cons_zero])
        refine wpAnyH_take (i := 16) (oi := _) (v := ?q4av16) rfl (by kernel_rfl) (by kernel_rfl) (by kernel_rfl) (fun _ _ _ h => h) (Or.inl ⟨by rfl, ?q4ay16⟩) hHeld ?q4ar16
        case q4ay16 => (intro w hSw; (try dsimp only at hSw); go_simp; (first | done | with_reducible rfl))
        case q4ar16 =>
        (try simp only [Act.put, List.setIfInBounds_toArray, List.set_cons_zero, List.set_cons_succ, List.getElem_toArray, List.getElem_cons_succ, List.getElem_cons_zero])
        refine wpAnyH_done (by kernel_rfl) ?_ _
        -- E4a
        go_wp2_with fail
        go_meet
        exact ⟨rfl, hb02⟩
      · have hdf : decide (tot L ≤ freeD D) = true := decide_eq_true h1
        have hg := hd128 true (decide_eq_true h2)
        rw [hdf] at HFT
        clear hdf h1 hd128 h2
        unfold ptrO at *
        simp only at *
        generalize (D.H.length : Int) = dl at *
        -- R4b
        refine wp_region_held_drew (S := fun w' => w'.cell? ⟨nb, 0, none⟩ = some (.string s) ∧ w'.cell? ⟨db, 0, none⟩ = some (.pointer (some ⟨d, 0, none⟩)) ∧ w'.cell? ⟨pb, 0, none⟩ = some (.slice A n c) ∧ w'.cell? ⟨d, 0, none⟩ = some (.map D.mp) ∧ (∀ ty, (Builtin.len_ #[55] ty #[.map D.mp]).run Try.prog w' = .ok (.int .i64 dl) w')) (by kernel_rfl) (s0) (fun hHeld => ?_)
        refine wpAnyH_take (i := 0) (oi := _) (v := ?q4bv0) rfl (by kernel_rfl) (by kernel_rfl) (by kernel_rfl) (fun _ _ _ h => h) (Or.inl ⟨by rfl, ?q4by0⟩) hHeld ?q4br0
        case q4by0 => (intro w hSw; (try dsimp only at hSw); go_simp; (first | done | with_reducible rfl))
        case q4br0 =>
        (try simp only [Act.put, List.setIfInBounds_toArray, List.set_cons_zero, List.set_cons_succ, List.getElem_toArray, List.getElem_cons_succ, List.getElem_cons_zero])
        refine wpAnyH_take (i := 2) (oi := _) (v := ?q4bv2) rfl (by kernel_rfl) (by kernel_rfl) (by kernel_rfl) (fun _ _ _ h => h) (Or.inl ⟨by rfl, ?q4by2⟩) hHeld ?q4br2
        case q4by2 => (intro w hSw; (try dsimp only at hSw); go_simp; (first | done | with_reducible rfl))
        case q4br2 =>
        (try simp only [Act.put, List.setIfInBounds_toArray, List.set_cons_zero, List.set_cons_succ, List.getElem_toArray, List.getElem_cons_succ, List.getElem_cons_zero])
        refine wpAnyH_ready (rs := [1]) (by kernel_rfl) (by simp) ?_
        refine AllReadyH.cons (o := _) rfl (fun K hK => ?_) AllReadyH.nil
        go_simp
        (go_at_call 21; refine (HFR.out w.drew ((Below.refl _ _).drew)).mono ?_; rintro e w2 ⟨rfl, hb2⟩; have hb02 : Below w.heap.size w w2 := ((Below.refl w.heap.size w).drew).trans hb2; have s2 := HSB.out w2 hb02)
        go_wp2_with fail
        refine hK.out _ _ ?q4bs1 (fun hNow => ?q4br1)
        case q4bs1 => exact s2
        case q4br1 =>
        clear hK K hHeld
        have hHeld := hNow
        clear hNow
        (try simp only [Act.put, List.setIfInBounds_toArray, List.set_cons_zero, List.set_cons_succ, List.getElem_toArray, List.getElem_cons_succ, List.getElem_cons_zero])
        refine wpAnyH_ready (rs := [3]) (by kernel_rfl) (by simp) ?_
        refine AllReadyH.cons (o := _) rfl (fun K hK => ?_) AllReadyH.nil
        go_simp
        (go_at_call 54; refine (HFT.out w2 hb02).mono ?_; rintro e w3 ⟨rfl, hw3⟩; have hw3' := hw3.symm; subst hw3'; clear hw3)
        go_wp2_with fail
        refine hK.out _ _ ?q4bs3 (fun hNow => ?q4br3)
        case q4bs3 => exact s2
        case q4br3 =>
        clear hK K hHeld
        have hHeld := hNow
        clear hNow
        (try simp only [Act.put, List.setIfInBounds_toArray, List.set_cons_zero, List.set_cons_succ, List.getElem_toArray, List.getElem_cons_succ, List.getElem_cons_zero])
        refine wpAnyH_take (i := 4) (oi := _) (v := ?q4bv4) rfl (by kernel_rfl) (by kernel_rfl) (by kernel_rfl) (fun _ _ _ h => h) (Or.inl ⟨by rfl, ?q4by4⟩) hHeld ?q4br4
        case q4by4 => (intro w hSw; (try dsimp only at hSw); go_simp; (first | done | with_reducible rfl))
        case q4br4 =>
        (try simp only [Act.put, List.setIfInBounds_toArray, List.set_cons_zero, List.set_cons_succ, List.getElem_toArray, List.getElem_cons_succ, List.getElem_cons_zero])
        refine wpAnyH_take (i := 5) (oi := _) (v := ?q4bv5) rfl (by kernel_rfl) (by kernel_rfl) (by kernel_rfl) (fun _ _ _ h => h) (Or.inl ⟨by rfl, ?q4by5⟩) hHeld ?q4br5
        case q4by5 => (intro w hSw; (try dsimp only at hSw); go_simp; (first | done | with_reducible rfl))
        case q4br5 =>
        (try simp only [Act.put, List.setIfInBounds_toArray, List.set_cons_zero, List.set_cons_succ, List.getElem_toArray, List.getElem_cons_succ, List.getElem_cons_zero])
        refine wpAnyH_take (i := 6) (oi := _) (v := ?q4bv6) rfl (by kernel_rfl) (by kernel_rfl) (by kernel_rfl) (fun _ _ _ h => h) (Or.inl ⟨by rfl, ?q4by6⟩) hHeld ?q4br6
        case q4by6 => (intro w hSw; (try dsimp only at hSw); go_simp; (first | done | with_reducible rfl))
        case q4br6 =>
        (try simp only [Act.put, List.setIfInBounds_toArray, List.set_cons_zero, List.set_cons_succ, List.getElem_toArray, List.getElem_cons_succ, List.getElem_cons_zero])
        refine wpAnyH_take (i := 7) (oi := _) (v := ?q4bv7) rfl (by kernel_rfl) (by kernel_rfl) (by kernel_rfl) (fun _ _ _ h => h) (Or.inl ⟨by rfl, ?q4by7⟩) hHeld ?q4br7
        case q4by7 => (intro w hSw; (try dsimp only at hSw); go_simp; (first | done | with_reducible rfl))
        case q4br7 =>
        (try simp only [Act.put, List.setIfInBounds_toArray, List.set_cons_zero, List.set_cons_succ, List.getElem_toArray, List.getElem_cons_succ, List.getElem_cons_zero])
        refine wpAnyH_take (i := 8) (oi := _) (v := ?q4bv8) rfl (by kernel_rfl) (by kernel_rfl) (by kernel_rfl) (fun _ _ _ h => h) (Or.inl ⟨by rfl, ?q4by8⟩) hHeld ?q4br8
        case q4by8 => (intro w hSw; (try dsimp only at hSw); go_simp; (first | done | with_reducible rfl))
        case q4br8 =>
        (try simp only [Act.put, List.setIfInBounds_toArray, List.set_cons_zero, List.set_cons_succ, List.getElem_toArray, List.getElem_cons_succ, List.getElem_cons_zero])
        refine wpAnyH_take (i := 9) (oi := _) (v := ?q4bv9) rfl (by kernel_rfl) (by kernel_rfl) (by kernel_rfl) (fun _ _ _ h => h) (Or.inl ⟨by rfl, ?q4by9⟩) hHeld ?q4br9
        case q4by9 => (intro w hSw; (try dsimp only at hSw); go_simp; (first | done | with_reducible rfl))
        case q4br9 =>
        (try simp only [Act.put, List.setIfInBounds_toArray, List.set_cons_zero, List.set_cons_succ, List.getElem_toArray, List.getElem_cons_succ, List.getElem_cons_zero])
        refine wpAnyH_take (i := 10) (oi := _) (v := ?q4bv10) rfl (by kernel_rfl) (by kernel_rfl) (by kernel_rfl) (fun _ _ _ h => h) (Or.inl ⟨by rfl, ?q4by10⟩) hHeld ?q4br10
        case q4by10 => (intro w hSw; (try dsimp only at hSw); go_simp; (first | done | with_reducible rfl))
        case q4br10 =>
        (try simp only [Act.put, List.setIfInBounds_toArray, List.set_cons_zero, List.set_cons_succ, List.getElem_toArray, List.getElem_cons_succ, List.getElem_cons_zero])
        refine wpAnyH_take (i := 11) (oi := _) (v := ?q4bv11) rfl (by kernel_rfl) (by kernel_rfl) (by kernel_rfl) (fun _ _ _ h => h) (Or.inl ⟨by rfl, ?q4by11⟩) hHeld ?q4br11
        case q4by11 => (intro w hSw; (try dsimp only at hSw); go_simp; (first | done | with_reducible rfl))
        case q4br11 =>
        (try simp only [Act.put, List.setIfInBounds_toArray, List.set_cons_zero, List.set_cons_succ, List.getElem_toArray, List.getElem_cons_succ, List.getElem_cons_zero])
        refine wpAnyH_take (i := 12) (oi := _) (v := ?q4bv12) rfl (by kernel_rfl) (by kernel_rfl) (by kernel_rfl) (fun _ _ _ h => h) (Or.inl ⟨by rfl, ?q4by12⟩) hHeld ?q4br12
        case q4by12 => (intro w hSw; (try dsimp only at hSw); go_simp; (first | done | with_reducible rfl))
        case q4br12 =>
        (try simp only [Act.put, List.setIfInBounds_toArray, List.set_cons_zero, List.set_cons_succ, List.getElem_toArray, List.getElem_cons_succ, List.getElem_cons_zero])
        refine wpAnyH_take (i := 13) (oi := _) (v := ?q4bv13) rfl (by kernel_rfl) (by kernel_rfl) (by kernel_rfl) (fun _ _ _ h => h) (Or.inl ⟨by rfl, ?q4by13⟩) hHeld ?q4br13
        case q4by13 => (intro w hSw; (try dsimp only at hSw); go_simp; (first | done | with_reducible rfl))
        case q4br13 =>
        (try simp only [Act.put, List.setIfInBounds_toArray, List.set_cons_zero, List.set_cons_succ, List.getElem_toArray, List.getElem_cons_succ, List.getElem_cons_zero])
        refine wpAnyH_take (i := 14) (oi := _) (v := ?q4bv14) rfl (by kernel_rfl) (by kernel_rfl) (by kernel_rfl) (fun _ _ _ h => h) (Or.inl ⟨by rfl, ?q4by14⟩) hHeld ?q4br14
        case q4by14 => (intro w hSw; (try dsimp only at hSw); go_simp; (first | done | with_reducible rfl))
        case q4br14 =>
        (try simp only [Act.put, List.setIfInBounds_toArray, List.set_cons_zero, List.set_cons_succ, List.getElem_toArray, List.getElem_cons_succ, List.getElem_cons_zero])
        refine wpAnyH_take (i := 15) (oi := _) (v := ?q4bv15) rfl (by kernel_rfl) (by kernel_rfl) (by kernel_rfl) (fun _ _ _ h => h) (Or.inl ⟨by rfl, ?q4by15⟩) hHeld ?q4br15
        case q4by15 => (intro w hSw; (try dsimp only at hSw); go_simp; (first | done | with_reducible rfl))
        case q4br15 =>
        (try simp only [Act.put, List.setIfInBounds_toArray, List.set_cons_zero, List.set_cons_succ, List.getElem_toArray, List.getElem_cons_succ, List.getElem_cons_zero])
        refine wpAnyH_take (i := 16) (oi := _) (v := ?q4bv16) rfl (by kernel_rfl) (by kernel_rfl) (by kernel_rfl) (fun _ _ _ h => h) (Or.inl ⟨by rfl, ?q4by16⟩) hHeld ?q4br16
        case q4by16 => (intro w hSw; (try dsimp only at hSw); go_simp; (first | done | with_reducible rfl))
        case q4br16 =>
        (try simp only [Act.put, List.setIfInBounds_toArray, List.set_cons_zero, List.set_cons_succ, List.getElem_toArray, List.getElem_cons_succ, List.getElem_cons_zero])
        refine wpAnyH_done (by kernel_rfl) ?_ _
        -- E4b
        go_wp2_with fail
        go_meet
        exact ⟨rfl, hb02⟩
      · have hdf : decide (tot L ≤ freeD D) = true := decide_eq_true h1
        have hg := hd128 false (decide_eq_false h2)
        rw [hdf] at HFT
        clear hdf h1 hd128 h2
        unfold ptrO at *
        simp only at *
        generalize (D.H.length : Int) = dl at *
        -- R4c
        refine wp_region_held_drew (S := fun w' => w'.cell? ⟨nb, 0, none⟩ = some (.string s) ∧ w'.cell? ⟨db, 0, none⟩ = some (.pointer (some ⟨d, 0, none⟩)) ∧ w'.cell? ⟨pb, 0, none⟩ = some (.slice A n c) ∧ w'.cell? ⟨d, 0, none⟩ = some (.map D.mp) ∧ (∀ ty, (Builtin.len_ #[55] ty #[.map D.mp]).run Try.prog w' = .ok (.int .i64 dl) w')) (by kernel_rfl) (s0) (fun hHeld => ?_)
        refine wpAnyH_take (i := 0) (oi := _) (v := ?q4cv0) rfl (by kernel_rfl) (by kernel_rfl) (by kernel_rfl) (fun _ _ _ h => h) (Or.inl ⟨by rfl, ?q4cy0⟩) hHeld ?q4cr0
        case q4cy0 => (intro w hSw; (try dsimp only at hSw); go_simp; (first | done | with_reducible rfl))
        case q4cr0 =>
        (try simp only [Act.put, List.setIfInBounds_toArray, List.set_cons_zero, List.set_cons_succ, List.getElem_toArray, List.getElem_cons_succ, List.getElem_cons_zero])
        refine wpAnyH_take (i := 2) (oi := _) (v := ?q4cv2) rfl (by kernel_rfl) (by kernel_rfl) (by kernel_rfl) (fun _ _ _ h => h) (Or.inl ⟨by rfl, ?q4cy2⟩) hHeld ?q4cr2
        case q4cy2 => (intro w hSw; (try dsimp only at hSw); go_simp; (first | done | with_reducible rfl))
        case q4cr2 =>
        (try simp only [Act.put, List.setIfInBounds_toArray, List.set_cons_zero, List.set_cons_succ, List.getElem_toArray, List.getElem_cons_succ, List.getElem_cons_zero])
        refine wpAnyH_ready (rs := [1]) (by kernel_rfl) (by simp) ?_
        refine AllReadyH.cons (o := _) rfl (fun K hK => ?_) AllReadyH.nil
        go_simp
        (go_at_call 21; refine (HFR.out w.drew ((Below.refl _ _).drew)).mono ?_; rintro e w2 ⟨rfl, hb2⟩; have hb02 : Below w.heap.size w w2 := ((Below.refl w.heap.size w).drew).trans hb2; have s2 := HSB.out w2 hb02)
        go_wp2_with fail
        refine hK.out _ _ ?q4cs1 (fun hNow => ?q4cr1)
        case q4cs1 => exact s2
        case q4cr1 =>
        clear hK K hHeld
        have hHeld := hNow
        clear hNow
        (try simp only [Act.put, List.setIfInBounds_toArray, List.set_cons_zero, List.set_cons_succ, List.getElem_toArray, List.getElem_cons_succ, List.getElem_cons_zero])
        refine wpAnyH_ready (rs := [3]) (by kernel_rfl) (by simp) ?_
        refine AllReadyH.cons (o := _) rfl (fun K hK => ?_) AllReadyH.nil
        go_simp
        (go_at_call 54; refine (HFT.out w2 hb02).mono ?_; rintro e w3 ⟨rfl, hw3⟩; have hw3' := hw3.symm; subst hw3'; clear hw3)
        go_wp2_with fail
        refine hK.out _ _ ?q4cs3 (fun hNow => ?q4cr3)
        case q4cs3 => exact s2
        case q4cr3 =>
        clear hK K hHeld
        have hHeld := hNow
        clear hNow
        (try simp only [Act.put, List.setIfInBounds_toArray, List.set_cons_zero, List.set_cons_succ, List.getElem_toArray, List.getElem_cons_succ, List.getElem_cons_zero])
        refine wpAnyH_take (i := 4) (oi := _) (v := ?q4cv4) rfl (by kernel_rfl) (by kernel_rfl) (by kernel_rfl) (fun _ _ _ h => h) (Or.inl ⟨by rfl, ?q4cy4⟩) hHeld ?q4cr4
        case q4cy4 => (intro w hSw; (try dsimp only at hSw); go_simp; (first | done | with_reducible rfl))
        case q4cr4 =>
        (try simp only [Act.put, List.setIfInBounds_toArray, List.set_cons_zero, List.set_cons_succ, List.getElem_toArray, List.getElem_cons_succ, List.getElem_cons_zero])
        refine wpAnyH_take (i := 5) (oi := _) (v := ?q4cv5) rfl (by kernel_rfl) (by kernel_rfl) (by kernel_rfl) (fun _ _ _ h => h) (Or.inl ⟨by rfl, ?q4cy5⟩) hHeld ?q4cr5
        case q4cy5 => (intro w hSw; (try dsimp only at hSw); go_simp; (first | done | with_reducible rfl))
        case q4cr5 =>
        (try simp only [Act.put, List.setIfInBounds_toArray, List.set_cons_zero, List.set_cons_succ, List.getElem_toArray, List.getElem_cons_succ, List.getElem_cons_zero])
        refine wpAnyH_take (i := 6) (oi := _) (v := ?q4cv6) rfl (by kernel_rfl) (by kernel_rfl) (by kernel_rfl) (fun _ _ _ h => h) (Or.inl ⟨by rfl, ?q4cy6⟩) hHeld ?q4cr6
        case q4cy6 => (intro w hSw; (try dsimp only at hSw); go_simp; (first | done | with_reducible rfl))
        case q4cr6 =>
        (try simp only [Act.put, List.setIfInBounds_toArray, List.set_cons_zero, List.set_cons_succ, List.getElem_toArray, List.getElem_cons_succ, List.getElem_cons_zero])
        refine wpAnyH_take (i := 7) (oi := _) (v := ?q4cv7) rfl (by kernel_rfl) (by kernel_rfl) (by kernel_rfl) (fun _ _ _ h => h) (Or.inl ⟨by rfl, ?q4cy7⟩) hHeld ?q4cr7
        case q4cy7 => (intro w hSw; (try dsimp only at hSw); go_simp; (first | done | with_reducible rfl))
        case q4cr7 =>
        (try simp only [Act.put, List.setIfInBounds_toArray, List.set_cons_zero, List.set_cons_succ, List.getElem_toArray, List.getElem_cons_succ, List.getElem_cons_zero])
        refine wpAnyH_take (i := 8) (oi := _) (v := ?q4cv8) rfl (by kernel_rfl) (by kernel_rfl) (by kernel_rfl) (fun _ _ _ h => h) (Or.inl ⟨by rfl, ?q4cy8⟩) hHeld ?q4cr8
        case q4cy8 => (intro w hSw; (try dsimp only at hSw); go_simp; (first | done | with_reducible rfl))
        case q4cr8 =>
        (try simp only [Act.put, List.setIfInBounds_toArray, List.set_cons_zero, List.set_cons_succ, List.getElem_toArray, List.getElem_cons_succ, List.getElem_cons_zero])
        refine wpAnyH_take (i := 9) (oi := _) (v := ?q4cv9) rfl (by kernel_rfl) (by kernel_rfl) (by kernel_rfl) (fun _ _ _ h => h) (Or.inl ⟨by rfl, ?q4cy9⟩) hHeld ?q4cr9
        case q4cy9 => (intro w hSw; (try dsimp only at hSw); go_simp; (first | done | with_reducible rfl))
        case q4cr9 =>
        (try simp only [Act.put, List.setIfInBounds_toArray, List.set_cons_zero, List.set_cons_succ, List.getElem_toArray, List.getElem_cons_succ, List.getElem_cons_zero])
        refine wpAnyH_take (i := 10) (oi := _) (v := ?q4cv10) rfl (by kernel_rfl) (by kernel_rfl) (by kernel_rfl) (fun _ _ _ h => h) (Or.inl ⟨by rfl, ?q4cy10⟩) hHeld ?q4cr10
        case q4cy10 => (intro w hSw; (try dsimp only at hSw); go_simp; (first | done | with_reducible rfl))
        case q4cr10 =>
        (try simp only [Act.put, List.setIfInBounds_toArray, List.set_cons_zero, List.set_cons_succ, List.getElem_toArray, List.getElem_cons_succ, List.getElem_cons_zero])
        refine wpAnyH_take (i := 11) (oi := _) (v := ?q4cv11) rfl (by kernel_rfl) (by kernel_rfl) (by kernel_rfl) (fun _ _ _ h => h) (Or.inl ⟨by rfl, ?q4cy11⟩) hHeld ?q4cr11
        case q4cy11 => (intro w hSw; (try dsimp only at hSw); go_simp; (first | done | with_reducible rfl))
        case q4cr11 =>
        (try simp only [Act.put, List.setIfInBounds_toArray, List.set_cons_zero, List.set_cons_succ, List.getElem_toArray, List.getElem_cons_succ, List.getElem_cons_zero])
        refine wpAnyH_take (i := 12) (oi := _) (v := ?q4cv12) rfl (by kernel_rfl) (by kernel_rfl) (by kernel_rfl) (fun _ _ _ h => h) (Or.inl ⟨by rfl, ?q4cy12⟩) hHeld ?q4cr12
        case q4cy12 => (intro w hSw; (try dsimp only at hSw); go_simp; (first | done | with_reducible rfl))
        case q4cr12 =>
        (try simp only [Act.put, List.setIfInBounds_toArray, List.set_cons_zero, List.set_cons_succ, List.getElem_toArray, List.getElem_cons_succ, List.getElem_cons_zero])
        refine wpAnyH_take (i := 13) (oi := _) (v := ?q4cv13) rfl (by kernel_rfl) (by kernel_rfl) (by kernel_rfl) (fun _ _ _ h => h) (Or.inl ⟨by rfl, ?q4cy13⟩) hHeld ?q4cr13
        case q4cy13 => (intro w hSw; (try dsimp only at hSw); go_simp; (first | done | with_reducible rfl))
        case q4cr13 =>
        (try simp only [Act.put, List.setIfInBounds_toArray, List.set_cons_zero, List.set_cons_succ, List.getElem_toArray, List.getElem_cons_succ, List.getElem_cons_zero])
        refine wpAnyH_take (i := 14) (oi := _) (v := ?q4cv14) rfl (by kernel_rfl) (by kernel_rfl) (by kernel_rfl) (fun _ _ _ h => h) (Or.inl ⟨by rfl, ?q4cy14⟩) hHeld ?q4cr14
        case q4cy14 => (intro w hSw; (try dsimp only at hSw); go_simp; (first | done | with_reducible rfl))
        case q4cr14 =>
        (try simp only [Act.put, List.setIfInBounds_toArray, List.set_cons_zero, List.set_cons_succ, List.getElem_toArray, List.getElem_cons_succ, List.getElem_cons_zero])
        refine wpAnyH_take (i := 15) (oi := _) (v := ?q4cv15) rfl (by kernel_rfl) (by kernel_rfl) (by kernel_rfl) (fun _ _ _ h => h) (Or.inl ⟨by rfl, ?q4cy15⟩) hHeld ?q4cr15
        case q4cy15 => (intro w hSw; (try dsimp only at hSw); go_simp; (first | done | with_reducible rfl))
        case q4cr15 =>
        (try simp only [Act.put, List.setIfInBounds_toArray, List.set_cons_zero, List.set_cons_succ, List.getElem_toArray, List.getElem_cons_succ, List.getElem_cons_zero])
        refine wpAnyH_take (i := 16) (oi := _) (v := ?q4cv16) rfl (by kernel_rfl) (by kernel_rfl) (by kernel_rfl) (fun _ _ _ h => h) (Or.inl ⟨by rfl, ?q4cy16⟩) hHeld ?q4cr16
        case q4cy16 => (intro w hSw; (try dsimp only at hSw); go_simp; (first | done | with_reducible rfl))
        case q4cr16 =>
        (try simp only [Act.put, List.setIfInBounds_toArray, List.set_cons_zero, List.set_cons_succ, List.getElem_toArray, List.getElem_cons_succ, List.getElem_cons_zero])
        refine wpAnyH_done (by kernel_rfl) ?_ _
        -- E4c
        go_wp2_with fail
        go_meet
        exact ⟨rfl, hb02⟩
      · have hdf : decide (tot L ≤ freeD D) = false := decide_eq_false h1
        rw [hdf] at HFT
        clear hdf h1 hd128
        generalize ptrO fo = pf at *
        generalize (D.H.length : Int) = dl at *
        -- R4d
        refine wp_region_held_drew (S := fun w' => w'.cell? ⟨nb, 0, none⟩ = some (.string s) ∧ w'.cell? ⟨db, 0, none⟩ = some (.pointer (some ⟨d, 0, none⟩)) ∧ w'.cell? ⟨pb, 0, none⟩ = some (.slice A n c) ∧ w'.cell? ⟨d, 0, none⟩ = some (.map D.mp) ∧ (∀ ty, (Builtin.len_ #[55] ty #[.map D.mp]).run Try.prog w' = .ok (.int .i64 dl) w')) (by kernel_rfl) (s0) (fun hHeld => ?_)
        refine wpAnyH_take (i := 0) (oi := _) (v := ?q4dv0) rfl (by kernel_rfl) (by kernel_rfl) (by kernel_rfl) (fun _ _ _ h => h) (Or.inl ⟨by rfl, ?q4dy0⟩) hHeld ?q4dr0
        case q4dy0 => (intro w hSw; (try dsimp only at hSw); go_simp; (first | done | with_reducible rfl))
        case q4dr0 =>
        (try simp only [Act.put, List.setIfInBounds_toArray, List.set_cons_zero, List.set_cons_succ, List.getElem_toArray, List.getElem_cons_succ, List.getElem_cons_zero])
        refine wpAnyH_take (i := 2) (oi := _) (v := ?q4dv2) rfl (by kernel_rfl) (by kernel_rfl) (by kernel_rfl) (fun _ _ _ h => h) (Or.inl ⟨by rfl, ?q4dy2⟩) hHeld ?q4dr2
        case q4dy2 => (intro w hSw; (try dsimp only at hSw); go_simp; (first | done | with_reducible rfl))
        case q4dr2 =>
        (try simp only [Act.put, List.setIfInBounds_toArray, List.set_cons_zero, List.set_cons_succ, List.getElem_toArray, List.getElem_cons_succ, List.getElem_cons_zero])
        refine wpAnyH_ready (rs := [1]) (by kernel_rfl) (by simp) ?_
        refine AllReadyH.cons (o := _) rfl (fun K hK => ?_) AllReadyH.nil
        go_simp
        (go_at_call 21; refine (HFR.out w.drew ((Below.refl _ _).drew)).mono ?_; rintro e w2 ⟨rfl, hb2⟩; have hb02 : Below w.heap.size w w2 := ((Below.refl w.heap.size w).drew).trans hb2; have s2 := HSB.out w2 hb02)
        go_wp2_with fail
        refine hK.out _ _ ?q4ds1 (fun hNow => ?q4dr1)
        case q4ds1 => exact s2
        case q4dr1 =>
        clear hK K hHeld
        have hHeld := hNow
        clear hNow
        (try simp only [Act.put, List.setIfInBounds_toArray, List.set_cons_zero, List.set_cons_succ, List.getElem_toArray, List.getElem_cons_succ, List.getElem_cons_zero])
        refine wpAnyH_ready (rs := [3]) (by kernel_rfl) (by simp) ?_
        refine AllReadyH.cons (o := _) rfl (fun K hK => ?_) AllReadyH.nil
        go_simp
        (go_at_call 54; refine (HFT.out w2 hb02).mono ?_; rintro e w3 ⟨rfl, hw3⟩; have hw3' := hw3.symm; subst hw3'; clear hw3)
        go_wp2_with fail
        refine hK.out _ _ ?q4ds3 (fun hNow => ?q4dr3)
        case q4ds3 => exact s2
        case q4dr3 =>
        clear hK K hHeld
        have hHeld := hNow
        clear hNow
        (try simp only [Act.put, List.setIfInBounds_toArray, List.set_cons_zero, List.set_cons_succ, List.getElem_toArray, List.getElem_cons_succ, List.getElem_cons_zero])
        refine wpAnyH_take (i := 4) (oi := _) (v := ?q4dv4) rfl (by kernel_rfl) (by kernel_rfl) (by kernel_rfl) (fun _ _ _ h => h) (Or.inl ⟨by rfl, ?q4dy4⟩) hHeld ?q4dr4
        case q4dy4 => (intro w hSw; (try dsimp only at hSw); go_simp; (first | done | with_reducible rfl))
        case q4dr4 =>
        (try simp only [Act.put, List.setIfInBounds_toArray, List.set_cons_zero, List.set_cons_succ, List.getElem_toArray, List.getElem_cons_succ, List.getElem_cons_zero])
        refine wpAnyH_take (i := 5) (oi := _) (v := ?q4dv5) rfl (by kernel_rfl) (by kernel_rfl) (by kernel_rfl) (fun _ _ _ h => h) (Or.inl ⟨by rfl, ?q4dy5⟩) hHeld ?q4dr5
        case q4dy5 => (intro w hSw; (try dsimp only at hSw); go_simp; (first | done | with_reducible rfl))
        case q4dr5 =>
        (try simp only [Act.put, List.setIfInBounds_toArray, List.set_cons_zero, List.set_cons_succ, List.getElem_toArray, List.getElem_cons_succ, List.getElem_cons_zero])
        refine wpAnyH_take (i := 6) (oi := _) (v := undef) rfl (by kernel_rfl) (by kernel_rfl) (by kernel_rfl) (fun _ _ _ h => h) (Or.inr ⟨by rfl, rfl⟩) hHeld ?q4dr6
        case q4dr6 =>
        (try simp only [Act.put, List.setIfInBounds_toArray, List.set_cons_zero, List.set_cons_succ, List.getElem_toArray, List.getElem_cons_succ, List.getElem_cons_zero])
        refine wpAnyH_take (i := 7) (oi := _) (v := undef) rfl (by kernel_rfl) (by kernel_rfl) (by kernel_rfl) (fun _ _ _ h => h) (Or.inr ⟨by rfl, rfl⟩) hHeld ?q4dr7
        case q4dr7 =>
        (try simp only [Act.put, List.setIfInBounds_toArray, List.set_cons_zero, List.set_cons_succ, List.getElem_toArray, List.getElem_cons_succ, List.getElem_cons_zero])
        refine wpAnyH_take (i := 8) (oi := _) (v := undef) rfl (by kernel_rfl) (by kernel_rfl) (by kernel_rfl) (fun _ _ _ h => h) (Or.inr ⟨by rfl, rfl⟩) hHeld ?q4dr8
        case q4dr8 =>
        (try simp only [Act.put, List.setIfInBounds_toArray, List.set_cons_zero, List.set_cons_succ, List.getElem_toArray, List.getElem_cons_succ, List.getElem_cons_zero])
        refine wpAnyH_take (i := 9) (oi := _) (v := undef) rfl (by kernel_rfl) (by kernel_rfl) (by kernel_rfl) (fun _ _ _ h => h) (Or.inr ⟨by rfl, rfl⟩) hHeld ?q4dr9
        case q4dr9 =>
        (try simp only [Act.put, List.setIfInBounds_toArray, List.set_cons_zero, List.set_cons_succ, List.getElem_toArray, List.getElem_cons_succ, List.getElem_cons_zero])
        refine wpAnyH_take (i := 10) (oi := _) (v := undef) rfl (by kernel_rfl) (by kernel_rfl) (by kernel_rfl) (fun _ _ _ h => h) (Or.inr ⟨by rfl, rfl⟩) hHeld ?q4dr10
        case q4dr10 =>
        (try simp only [Act.put, List.setIfInBounds_toArray, List.set_cons_zero, List.set_cons_succ, List.getElem_toArray, List.getElem_cons_succ, List.getElem_cons_zero])
        refine wpAnyH_take (i := 11) (oi := _) (v := undef) rfl (by kernel_rfl) (by kernel_rfl) (by kernel_rfl) (fun _ _ _ h => h) (Or.inr ⟨by rfl, rfl⟩) hHeld ?q4dr11
        case q4dr11 =>
        (try simp only [Act.put, List.setIfInBounds_toArray, List.set_cons_zero, List.set_cons_succ, List.getElem_toArray, List.getElem_cons_succ, List.getElem_cons_zero])
        refine wpAnyH_take (i := 12) (oi := _) (v := undef) rfl (by kernel_rfl) (by kernel_rfl) (by kernel_rfl) (fun _ _ _ h => h) (Or.inr ⟨by rfl, rfl⟩) hHeld ?q4dr12
        case q4dr12 =>
        (try simp only [Act.put, List.setIfInBounds_toArray, List.set_cons_zero, List.set_cons_succ, List.getElem_toArray, List.getElem_cons_succ, List.getElem_cons_zero])
        refine wpAnyH_take (i := 13) (oi := _) (v := undef) rfl (by kernel_rfl) (by kernel_rfl) (by kernel_rfl) (fun _ _ _ h => h) (Or.inr ⟨by rfl, rfl⟩) hHeld ?q4dr13
        case q4dr13 =>
        (try simp only [Act.put, List.setIfInBounds_toArray, List.set_cons_zero, List.set_cons_succ, List.getElem_toArray, List.getElem_cons_succ, List.getElem_cons_zero])
        refine wpAnyH_take (i := 14) (oi := _) (v := undef) rfl (by kernel_rfl) (by kernel_rfl) (by kernel_rfl) (fun _ _ _ h => h) (Or.inr ⟨by rfl, rfl⟩) hHeld ?q4dr14
        case q4dr14 =>
        (try simp only [Act.put, List.setIfInBounds_toArray, List.set_cons_zero, List.set_cons_succ, List.getElem_toArray, List.getElem_cons_succ, List.getElem_cons_zero])
        refine wpAnyH_take (i := 15) (oi := _) (v := undef) rfl (by kernel_rfl) (by kernel_rfl) (by kernel_rfl) (fun _ _ _ h => h) (Or.inr ⟨by rfl, rfl⟩) hHeld ?q4dr15
        case q4dr15 =>
        (try simp only [Act.put, List.setIfInBounds_toArray, List.set_cons_zero, List.set_cons_succ, List.getElem_toArray, List.getElem_cons_succ, List.getElem_cons_zero])
        refine wpAnyH_take (i := 16) (oi := _) (v := ?q4dv16) rfl (by kernel_rfl) (by kernel_rfl) (by kernel_rfl) (fun _ _ _ h => h) (Or.inl ⟨by rfl, ?q4dy16⟩) hHeld ?q4dr16
        case q4dy16 => (intro w hSw; (try dsimp only at hSw); go_simp; (first | done | with_reducible rfl))
        case q4dr16 =>
        (try simp only [Act.put, List.setIfInBounds_toArray, List.set_cons_zero, List.set_cons_succ, List.getElem_toArray, List.getElem_cons_succ, List.getElem_cons_zero])
        refine wpAnyH_done (by kernel_rfl) ?_ _
        -- E4d
        go_wp2_with fail
        go_meet
        exact ⟨rfl, hb02⟩
    case rest =>
      obtain ⟨rfl, hbc⟩ := hcut
      have HDC := Lib.hid (HD.out.below hbc (Nat.le_refl _))
      have HBC := Lib.hid hbc
      have y := HSB.out wc hbc
      have y0 := y.1
      have y1 := y.2.1
      have y2 := y.2.2.1
      have hzc := hbc.size
      clear y x0 x1 x2 c0 hcb hbc
      cases cb with
      | true =>
        have HE : Hid (5 = appE4 D s (tot L)) := by
          have h1 := HCB.out
          simp only [Bool.or_eq_true, decide_eq_true_eq, Bool.and_eq_true] at h1
          show _ = _
          unfold appE4
          rw [HNM2.out, HFO.out, if_neg (by simp), if_pos h1]
        go_wp2_with fail
        first
          | exact HXN.out 5 wc HE.out (by omega) (Then.of_below HD.out HBC.out)
          | (go_ret; exact HXN.out 5 wc HE.out (by omega) (Then.of_below HD.out HBC.out))
      | false =>
        have HE : Hid (appE4 D s (tot L) = 0 ∧ tot L ≤ freeD D ∧ (fo = none → D.H.length < 128)) := by
          have h1 := HCB.out
          simp only [Bool.or_eq_false_iff, decide_eq_false_iff_not, Bool.and_eq_false_iff] at h1
          refine ⟨?_, by omega, fun e => ?_⟩
          · unfold appE4
            rw [HNM2.out, HFO.out, if_neg (by simp), if_neg]
            rintro (h2 | ⟨h2, h3⟩)
            · exact h1.1 h2
            · rcases h1.2 with h4 | h4
              · rw [h4] at h2; cases h2
              · exact h4 h3
          · rcases h1.2 with h4 | h4
            · rw [e] at h4; cases h4
            · omega
        have HSZ := Lib.hid (name_len HNM2.out)
        obtain ⟨fa, hfa⟩ : ∃ fa, ptrO fo = .pointer fa := by
          cases fo with
          | none => exact ⟨none, rfl⟩
          | some f => exact ⟨some ⟨f.fb, 0, none⟩, rfl⟩
        rw [hfa]
        have HFA := Lib.hid hfa
        have hqp : (binOp .eql 60 (.pointer fa) (.pointer none)).run Try.prog wc = .ok (.bool fo.isNone) wc := by
          rw [← hfa]
          cases fo with
          | none => exact eql_ptr_none wc
          | some f => exact eql_ptr_some _ wc
        clear hfa
        go_upto_if 31 with fail
        clear hqp
        go_cut [4] (fun f4 wx => ∃ (D1 : Dsk) (f1 : Hd), f4 = .pointer (some ⟨f1.fb, 0, none⟩) ∧ Hid (Then base d w wx D D1 ∧ SameD D D1 ∧ filesD D1 = mkF s (filesD D) ∧ D1.at_ s = some f1 ∧ usedH D1.H = usedH D.H))
        case first =>
          cases fo with
          | some f =>
            have e9 : fa = some ⟨f.fb, 0, none⟩ := by
              have := HFA.out
              unfold ptrO Hd.ptr at this
              simp only at this
              injection this with this
              exact this.symm
            subst e9
            go_wp2_with fail
            go_meet
            refine ⟨D, f, rfl, Then.of_below HD.out HBC.out, ⟨rfl, rfl, rfl⟩, ?_, HFO.out, rfl⟩
            unfold mkF
            rw [get_files, if_pos]
            have := HFO.out
            unfold Dsk.at_ at this
            rw [this]
            rfl
          | none =>
            have HCR := Lib.hid (create_any base d D s wc HDC.out (Nat.le_trans hb hzc) HFO.out HSZ.out.2 (HE.out.2.2 rfl))
            go_wp2_with (go_at_call 30; (with_reducible refine HCR.out.mono ?_); rintro e w4 ⟨fb4, m4, rfl, hfb4, hdk4, htu4, hm4⟩)
            go_meet
            refine ⟨_, ⟨s, fb4, .slice none 0 0, [], 0⟩, rfl, (Then.of_below HD.out HBC.out).trans ⟨hdk4, htu4, ins_foot hm4 hfb4 (.inl rfl)⟩, ⟨rfl, rfl, rfl⟩, ?_, ?_, ?_⟩
            · show (insT Hd.key _ D.H).map Hd.f = _
              rw [ins_files]
              unfold mkF
              rw [get_files, if_neg]
              · rfl
              · have := HFO.out
                unfold Dsk.at_ at this
                rw [this]
                simp
            · exact getT_of_mem Hd.key (hdk4.mp1 m4 rfl).2.rise ((insT_mem Hd.key _ D.H _).2 (.inl rfl))
            · show usedH (insT Hd.key _ D.H) = _
              rw [used_perm (insT_perm Hd.key _ D.H)]
              unfold usedH
              simp
        case rest =>
          obtain ⟨D1, f1, rfl, HT1⟩ := hcut
          obtain ⟨fb, hfb⟩ : ∃ fb, f1.fb = fb := ⟨_, rfl⟩
          rw [hfb]
          have HFB := Lib.hid hfb
          clear hfb
          have y2' := HT1.out.1.cell (HSB.out w (Below.refl _ _)).2.2.1 (HO.out pb (.inr (.inr rfl))).1 (HO.out pb (.inr (.inr rfl))).2
          clear y0 y1 y2
          have hus : usedH D.H + tot L ≤ 4194304 := by
            have h1 := HE.out.2.1
            unfold freeD at h1
            have h2 := HD.out.r2
            have h3 := HD.out.tot
            omega
          have HUS := Lib.hid hus
          clear hus
          go_wp2_with fail
          go_loopw [37] (fun iv wr => ∃ k : Nat, k ≤ n ∧ iv = .int .i64 k ∧ ∃ (Dk : Dsk) (fk : Hd), Hid (Then base d w wr D Dk ∧ SameD D Dk ∧ filesD Dk = addF s (L.take k).flatten (mkF s (filesD D)) ∧ Dk.at_ s = some fk ∧ fk.fb = fb ∧ usedH Dk.H = usedH D.H + tot (L.take k))) (fun iv _ => n - (RowKit.intOf iv).toNat)
          case atStart =>
            refine ⟨0, by omega, rfl, D1, f1, HT1.out.1, HT1.out.2.1, ?_, HT1.out.2.2.2.1, HFB.out, ?_⟩
            · rw [HT1.out.2.2.1, List.take_zero]
              show _ = addF s [] _
              rw [addF_nil]
            · rw [HT1.out.2.2.2.2]
              simp [tot]
          case round =>
            obtain ⟨k, hk, rfl, Dk, fk, HK⟩ := hrel
            by_cases hlt : k < n
            · obtain ⟨p, Al, cl, rfl, hpb, hc, hlc, hcm, hbs⟩ := (HL.out wr HK.out.1.tu).row k hlt
              have HTL := Lib.hid (tot_take L k (by have := HLL.out; omega))
              have HFL := Lib.hid (flat_take L k (by have := HLL.out; omega))
              have HTT : Hid (tot (L.take (k + 1)) ≤ tot L) := by
                show _ ≤ _
                unfold tot
                conv => rhs; rw [← List.take_append_drop (k + 1) L]
                rw [List.flatten_append, List.length_append]
                omega
              generalize L.getD k [] = lk at *
              have hfm := at_mem HK.out.2.2.2.1
              have hnmk := at_name HK.out.2.2.2.1
              have hfl := HK.out.1.dk.fl fk hfm
              have hfe := HK.out.2.2.2.2.1
              have hblk := hfl.blk
              rw [hfe] at hblk
              have HROW := Lib.hid hfl.row
              have HBLK := Lib.hid hblk
              have e0 : wr.cell? ⟨fb, 0, none⟩ = some fk.v := cell_of_row _ _ 0 _ _ _ hblk
              have hfbl := (Array.getElem?_eq_some_iff.1 hblk).1
              have hne : some fb ≠ fk.v.ownBlock := fun e => by
                obtain ⟨cur, hcc⟩ := row_has hfl.row e.symm
                rw [hblk] at hcc
                injection hcc with hcc
                injection hcc with _ hcc
                exact absurd hcc (by decide)
              have HNE := Lib.hid hne
              have hbu := used_mem hfm
              have hbk : fk.b.length + lk.length ≤ 4194304 := by
                have h1 := HK.out.2.2.2.2.2
                have h2 := HTL.out
                have h3 := HTT.out
                have h4 := HUS.out
                omega
              have HDTOT : Hid (usedH Dk.H + lk.length ≤ 4194304) := by
                have h1 := HK.out.2.2.2.2.2
                have h2 := HTL.out
                have h3 := HTT.out
                have h4 := HUS.out
                show _ ≤ _
                omega
              have hbw : base ≤ wr.heap.size := Nat.le_trans hb HK.out.1.tu.size
              have HBS := Lib.hid hbs
              have HFM := Lib.hid hfm
              have HNMK := Lib.hid hnmk
              obtain ⟨vk, hvk⟩ : ∃ v, fk.v = v := ⟨_, rfl⟩
              obtain ⟨bk, hbkl⟩ : ∃ m, fk.b.length = m := ⟨_, rfl⟩
              obtain ⟨lkl, hlkl⟩ : ∃ m, lk.length = m := ⟨_, rfl⟩
              have HVK := Lib.hid hvk
              have HBKL := Lib.hid hbkl
              have HLKL := Lib.hid hlkl
              have HROW2 : Hid (wr.ownsRow base 5 1 vk fk.b.length (bvs fk.b)) := by rw [← hvk]; exact HROW.out
              rw [hvk] at e0
              rw [hbkl, hlkl] at hbk
              rw [hlkl] at hc hlc
              clear hvk hbkl hlkl hfl hfm hnmk hfe hblk hne hbu hbs
              unfold maxLen at hcm
              go_wp2_with (at_builtin; refine wpList_append_src _ rfl (.tmp 45) (.tmp 46) 33 rfl base 5 i0 _ 1 Try.underlying33 qi0 qz0 qz1 qz2 rfl vk fk.b.length (bvs fk.b) rfl HROW2.out wr.heap.size Al lkl cl (bvs lk) rfl ?h1 HBS.out.lies (bvs_one _) ?h2 ?h3 ?h4 ?_)
              case h1 => rw [bvs_length]; exact HLKL.out
              case h2 => rw [HBKL.out]; unfold maxLen; omega
              case h3 => rw [HBKL.out]; omega
              case h4 => exact hbw
              intro v5 w5 hown5 hg5 hat5
              obtain ⟨A5, c5, rfl, _, _⟩ := slice_of_row hown5
              have hb5 := (hg5.block fb hfbl (by rw [← HVK.out]; exact HNE.out)).trans HBLK.out
              have e5 : w5.cell? ⟨fb, 0, none⟩ = some fk.v := cell_of_row _ _ 0 _ _ _ hb5
              have f5 : w5.frozen? ⟨fb, 0, none⟩ = false := frozen_of_row _ _ 0 _ _ hb5
              have HAD : Hid (∃ D', Then base d wr (w5.setCell ⟨fb, 0, none⟩ (.slice A5 (fk.b.length + lkl) c5)) Dk D' ∧ filesD D' = addF s lk (filesD Dk) ∧ SameD Dk D' ∧ ∃ f', D'.at_ s = some f' ∧ f'.fb = fb ∧ usedH D'.H = usedH Dk.H + lk.length) := by
                obtain ⟨D', a1, a2, a3, a4, a5, a6, f', a7, a8, a9, a10⟩ := Then.added HK.out.1.dk HFM.out (v' := .slice A5 (fk.b.length + lkl) c5) (x := lk) (w1 := w5) (by rw [HLKL.out]; exact hown5) (by rw [HVK.out]; exact hg5) (by rw [HVK.out]; exact hat5) HDTOT.out
                rw [HK.out.2.2.2.2.1] at a1
                rw [HNMK.out] at a2 a7
                exact ⟨D', a1, a2, ⟨a4, a5, a6⟩, f', a7, a8.trans HK.out.2.2.2.2.1, a9⟩
              clear hown5 hg5 hat5 hb5
              go_wp2_with fail
              go_roundw
              case rel =>
                obtain ⟨D', a1, a2, a3, f', a7, a8, a9⟩ := HAD.out
                refine ⟨k + 1, by omega, by go_num, D', f', HK.out.1.trans a1, ⟨a3.room.trans HK.out.2.1.room, a3.set.trans HK.out.2.1.set, a3.left.trans HK.out.2.1.left⟩, ?_, a7, a8, ?_⟩
                · rw [a2, HK.out.2.2.1, addF_add, HFL.out]
                · rw [a9, HK.out.2.2.2.2.2, HTL.out]
                  omega
              case measure => simp [RowKit.intOf]; omega
            · have d8 : decide ((k : Int) < (n : Int)) = false := by rw [decide_eq_false_iff_not]; omega
              have HFI2 : Hid (filesD Dk = addF s L.flatten (mkF s (filesD D))) := by
                have h1 := HK.out.2.2.1
                rw [List.take_of_length_le (by have := HLL.out; omega)] at h1
                exact h1
              go_wp2_with fail
              first
                | exact HXY.out Dk wr HE.out.1 HK.out.1 HK.out.2.1 HFI2.out
                | (go_ret; exact HXY.out Dk wr HE.out.1 HK.out.1 HK.out.2.1 HFI2.out)
end Go.Proofs.Ytebkgcnldbkgeaa
