/-
  What law 4's same answers: a disk and the document's that have the same data tell the same.
-/
import Derived.Test.YtebkgcnldbkgeaaDpM
import Derived.Test.YtebkgcnldbkgeaaOwnSet
namespace Go.Proofs.Ytebkgcnldbkgeaa
open Go.RowKit Go.Lib Go.Sort Go.Maps
set_option linter.unusedVariables false
set_option linter.unusedSimpArgs false

set_option maxRecDepth 100000 in
set_option maxHeartbeats 16000000 in
theorem same_any (base d base2 r : Nat) (D : Dsk) (v : Value) (w : World) (hd : Dk w base d D) (hr : Rk w base2 r v (pd D)) :
    Calls Try.prog 24 #[.pointer (some ⟨d, 0, none⟩), .pointer (some ⟨r, 0, none⟩)] w fun e w' => e = .returned (.bool true) ∧ Below w.heap.size w w' := by
  have hok := hd.ok
  have hsum : sumL (pd D).F = usedH D.H := sumL_files
  have hfree : (pd D).free = freeD D := (pd_free D).symm
  have HU : Hid (∀ W, Below w.heap.size w W → Calls Try.prog 20 #[.pointer (some ⟨d, 0, none⟩)] W fun e w' => e = .returned (.int .i64 (usedH D.H : Int)) ∧ Below W.heap.size W w') := fun W hW => used_any base d D W (hd.below hW (Nat.le_refl _))
  have HRU : Hid (∀ W, Below w.heap.size w W → Calls Try.prog 50 #[.pointer (some ⟨r, 0, none⟩)] W fun e w' => e = .returned (.int .i64 (usedH D.H : Int)) ∧ Below W.heap.size W w') := fun W hW => by
    have h1 := rused_any base2 r v _ W (hr.below hW (Nat.le_refl _)) hok
    rw [hsum] at h1
    exact h1
  have HFR : Hid (∀ W, Below w.heap.size w W → Calls Try.prog 21 #[.pointer (some ⟨d, 0, none⟩)] W fun e w' => e = .returned (.int .i64 (freeD D : Int)) ∧ Below W.heap.size W w') := fun W hW => free_any base d D W (hd.below hW (Nat.le_refl _))
  have HRF : Hid (∀ W, Below w.heap.size w W → Calls Try.prog 23 #[.pointer (some ⟨r, 0, none⟩)] W fun e w' => e = .returned (.int .i64 (freeD D : Int)) ∧ Below W.heap.size W w') := fun W hW => by
    have h1 := rfree_any base2 r v _ W (hr.below hW (Nat.le_refl _)) hok
    rw [hfree] at h1
    exact h1
  have HGO : Hid (∀ W, Below w.heap.size w W → Calls Try.prog 11 #[.pointer (some ⟨d, 0, none⟩)] W fun e w' => e = .returned (.bool (burntB D)) ∧ Below W.heap.size W w') := fun W hW => gone_any base d D W (hd.below hW (Nat.le_refl _))
  have HNM : Hid (∀ W, Below w.heap.size w W → Calls Try.prog 10 #[.pointer (some ⟨d, 0, none⟩), .string ⟨#[]⟩] W fun e w' => ∃ A c, e = .returned (.slice A D.H.length c) ∧ D.H.length ≤ c ∧ c ≤ maxLen ∧ Lies w' w'.heap.size A ((D.H.map Hd.key).map encStr) ∧ Below W.heap.size W w') := fun W hW => by
    have h1 := names_any base d D ⟨#[]⟩ W (hd.below hW (Nat.le_refl _))
    rw [names_all, List.length_map] at h1
    exact h1
  have hbu : (pd D).burnt = burntB D := rfl
  have hc3 := hr.c3
  rw [hbu] at hc3
  have hrl := hr.rlt
  have hfl : (pd D).F.length = D.H.length := by show (filesD D).length = _; unfold filesD; rw [List.length_map]
  obtain ⟨Av, cv, hve, _, _, hFv⟩ := Ths.of_row hr.row rfl
  rw [hfl] at hve hFv
  have hc1 := hr.c1
  rw [hve] at hc1
  have HC1 : Hid (∀ W, Below w.heap.size w W → W.cell? ⟨r, 1, none⟩ = some (.slice Av D.H.length cv)) := fun W hW => (hW.cell (p := ⟨r, 1, none⟩) hrl).trans hc1
  have HF : Hid (∀ W, Below w.heap.size w W → Fs W w.heap.size Av D.H.length (pd D).F) := fun W hW => hFv.below hW
  have hl128 := hd.len
  have HD : Hid (∀ W, Below w.heap.size w W → Dk W base d D) := fun W hW => hd.below hW (Nat.le_refl _)
  -- each file
  have HFI : Hid (∀ i, i < D.H.length → ∃ f, f ∈ D.H ∧ D.H[i]? = some f ∧ (pd D).F.getD i default = f.f ∧ D.at_ f.name = some f ∧ f.name.size ≤ 24 ∧ f.b.length ≤ 4194304) := fun i hi => by
    have hm := List.getElem_mem hi
    refine ⟨D.H[i], hm, List.getElem?_eq_getElem hi, ?_, ?_, (hd.fl _ hm).name, Nat.le_trans (used_mem hm) hd.tot⟩
    · show (filesD D).getD i default = _
      unfold filesD
      rw [List.getD_eq_getElem?_getD, List.getElem?_map, List.getElem?_eq_getElem hi]
      rfl
    · exact getT_of_mem Hd.key hd.rise hm
  obtain ⟨gn, hgn⟩ : ∃ x, burntB D = x := ⟨_, rfl⟩
  obtain ⟨us, hus⟩ : ∃ x, usedH D.H = x := ⟨_, rfl⟩
  obtain ⟨fr, hfr⟩ : ∃ x, freeD D = x := ⟨_, rfl⟩
  obtain ⟨n, hn⟩ : ∃ x, D.H.length = x := ⟨_, rfl⟩
  rw [hgn] at HGO hc3
  rw [hus] at HU HRU
  rw [hfr] at HFR HRF
  rw [hn] at HNM HC1 HF hl128 HFI
  have HS1 : Hid (∀ W, Below w.heap.size w W → W.cell? ⟨r, 3, none⟩ = some (.bool gn)) := fun W hW => (hW.cell (p := ⟨r, 3, none⟩) hrl).trans hc3
  clear hd hr hok hsum hfree hbu hc3 hfl hve hFv hc1 hgn hus hfr hn
  go_enter Try.func24, Try.ntmps24
  go_upto_region 1 with fail
  refine wp_region_held_drew (S := fun w' => w'.cell? ⟨r, 3, none⟩ = some (.bool gn)) (by kernel_rfl) (HS1.out w.drew ((Below.refl w.heap.size w).drew)) (fun hHeld => ?_)
  refine wpAnyH_take (i := 0) (oi := _) (v := ?n1v0) rfl (by kernel_rfl) (by kernel_rfl) (by kernel_rfl) (fun _ _ _ h => h) (Or.inl ⟨by rfl, ?n1y0⟩) hHeld ?n1r0
  case n1y0 => (intro w hSw; (try dsimp only at hSw); go_simp; (first | done | with_reducible rfl))
  case n1r0 =>
  (try simp only [Act.put, List.setIfInBounds_toArray, List.set_cons_zero, List.set_cons_succ, List.getElem_toArray, List.getElem_cons_succ, List.getElem_cons_zero])
  refine wpAnyH_take (i := 1) (oi := _) (v := ?n1v1) rfl (by kernel_rfl) (by kernel_rfl) (by kernel_rfl) (fun _ _ _ h => h) (Or.inl ⟨by rfl, ?n1y1⟩) hHeld ?n1r1
  case n1y1 => (intro w hSw; (try dsimp only at hSw); go_simp; (first | done | with_reducible rfl))
  case n1r1 =>
  (try simp only [Act.put, List.setIfInBounds_toArray, List.set_cons_zero, List.set_cons_succ, List.getElem_toArray, List.getElem_cons_succ, List.getElem_cons_zero])
  refine wpAnyH_take (i := 2) (oi := _) (v := ?n1v2) rfl (by kernel_rfl) (by kernel_rfl) (by kernel_rfl) (fun _ _ _ h => h) (Or.inl ⟨by rfl, ?n1y2⟩) hHeld ?n1r2
  case n1y2 => (intro w hSw; (try dsimp only at hSw); go_simp; (first | done | with_reducible rfl))
  case n1r2 =>
  (try simp only [Act.put, List.setIfInBounds_toArray, List.set_cons_zero, List.set_cons_succ, List.getElem_toArray, List.getElem_cons_succ, List.getElem_cons_zero])
  refine wpAnyH_take (i := 3) (oi := _) (v := ?n1v3) rfl (by kernel_rfl) (by kernel_rfl) (by kernel_rfl) (fun _ _ _ h => h) (Or.inl ⟨by rfl, ?n1y3⟩) hHeld ?n1r3
  case n1y3 => (intro w hSw; (try dsimp only at hSw); go_simp; (first | done | with_reducible rfl))
  case n1r3 =>
  (try simp only [Act.put, List.setIfInBounds_toArray, List.set_cons_zero, List.set_cons_succ, List.getElem_toArray, List.getElem_cons_succ, List.getElem_cons_zero])
  refine wpAnyH_take (i := 5) (oi := _) (v := ?n1v5) rfl (by kernel_rfl) (by kernel_rfl) (by kernel_rfl) (fun _ _ _ h => h) (Or.inl ⟨by rfl, ?n1y5⟩) hHeld ?n1r5
  case n1y5 => (intro w hSw; (try dsimp only at hSw); go_simp; (first | done | with_reducible rfl))
  case n1r5 =>
  (try simp only [Act.put, List.setIfInBounds_toArray, List.set_cons_zero, List.set_cons_succ, List.getElem_toArray, List.getElem_cons_succ, List.getElem_cons_zero])
  refine wpAnyH_ready (rs := [4]) (by kernel_rfl) (by simp) ?_
  refine AllReadyH.cons (o := _) rfl (fun K hK => ?_) AllReadyH.nil
  go_simp
  (go_at_call 20; refine (HU.out w.drew ((Below.refl w.heap.size w).drew)).mono ?_; rintro e w2 ⟨rfl, hb2⟩; have hc2 : Below w.heap.size w w2 := Below.trans ((Below.refl w.heap.size w).drew) (hb2.mono (Below.size ((Below.refl w.heap.size w).drew))); have s2 := HS1.out w2 hc2)
  go_wp2_with fail
  refine hK.out _ _ ?n1s4 (fun hNow => ?n1r4)
  case n1s4 => exact s2
  case n1r4 =>
  clear hK K hHeld
  have hHeld := hNow
  clear hNow
  (try simp only [Act.put, List.setIfInBounds_toArray, List.set_cons_zero, List.set_cons_succ, List.getElem_toArray, List.getElem_cons_succ, List.getElem_cons_zero])
  refine wpAnyH_ready (rs := [6]) (by kernel_rfl) (by simp) ?_
  refine AllReadyH.cons (o := _) rfl (fun K hK => ?_) AllReadyH.nil
  go_simp
  (go_at_call 50; refine (HRU.out w2 hc2).mono ?_; rintro e w3 ⟨rfl, hb3⟩; have hc3 : Below w.heap.size w w3 := Below.trans hc2 (hb3.mono (Below.size hc2)); have s3 := HS1.out w3 hc3)
  go_wp2_with fail
  refine hK.out _ _ ?n1s6 (fun hNow => ?n1r6)
  case n1s6 => exact s3
  case n1r6 =>
  clear hK K hHeld
  have hHeld := hNow
  clear hNow
  (try simp only [Act.put, List.setIfInBounds_toArray, List.set_cons_zero, List.set_cons_succ, List.getElem_toArray, List.getElem_cons_succ, List.getElem_cons_zero])
  refine wpAnyH_take (i := 7) (oi := _) (v := ?n1v7) rfl (by kernel_rfl) (by kernel_rfl) (by kernel_rfl) (fun _ _ _ h => h) (Or.inl ⟨by rfl, ?n1y7⟩) hHeld ?n1r7
  case n1y7 => (intro w hSw; (try dsimp only at hSw); go_simp; (first | done | with_reducible rfl))
  case n1r7 =>
  (try simp only [Act.put, List.setIfInBounds_toArray, List.set_cons_zero, List.set_cons_succ, List.getElem_toArray, List.getElem_cons_succ, List.getElem_cons_zero])
  refine wpAnyH_take (i := 8) (oi := _) (v := ?n1v8) rfl (by kernel_rfl) (by kernel_rfl) (by kernel_rfl) (fun _ _ _ h => h) (Or.inl ⟨by rfl, ?n1y8⟩) hHeld ?n1r8
  case n1y8 => (intro w hSw; (try dsimp only at hSw); go_simp; (first | done | with_reducible rfl))
  case n1r8 =>
  (try simp only [Act.put, List.setIfInBounds_toArray, List.set_cons_zero, List.set_cons_succ, List.getElem_toArray, List.getElem_cons_succ, List.getElem_cons_zero])
  refine wpAnyH_take (i := 9) (oi := _) (v := ?n1v9) rfl (by kernel_rfl) (by kernel_rfl) (by kernel_rfl) (fun _ _ _ h => h) (Or.inl ⟨by rfl, ?n1y9⟩) hHeld ?n1r9
  case n1y9 => (intro w hSw; (try dsimp only at hSw); go_simp; (first | done | with_reducible rfl))
  case n1r9 =>
  (try simp only [Act.put, List.setIfInBounds_toArray, List.set_cons_zero, List.set_cons_succ, List.getElem_toArray, List.getElem_cons_succ, List.getElem_cons_zero])
  refine wpAnyH_take (i := 10) (oi := _) (v := ?n1v10) rfl (by kernel_rfl) (by kernel_rfl) (by kernel_rfl) (fun _ _ _ h => h) (Or.inl ⟨by rfl, ?n1y10⟩) hHeld ?n1r10
  case n1y10 => (intro w hSw; (try dsimp only at hSw); go_simp; (first | done | with_reducible rfl))
  case n1r10 =>
  (try simp only [Act.put, List.setIfInBounds_toArray, List.set_cons_zero, List.set_cons_succ, List.getElem_toArray, List.getElem_cons_succ, List.getElem_cons_zero])
  refine wpAnyH_take (i := 12) (oi := _) (v := ?n1v12) rfl (by kernel_rfl) (by kernel_rfl) (by kernel_rfl) (fun _ _ _ h => h) (Or.inl ⟨by rfl, ?n1y12⟩) hHeld ?n1r12
  case n1y12 => (intro w hSw; (try dsimp only at hSw); go_simp; (first | done | with_reducible rfl))
  case n1r12 =>
  (try simp only [Act.put, List.setIfInBounds_toArray, List.set_cons_zero, List.set_cons_succ, List.getElem_toArray, List.getElem_cons_succ, List.getElem_cons_zero])
  refine wpAnyH_ready (rs := [11]) (by kernel_rfl) (by simp) ?_
  refine AllReadyH.cons (o := _) rfl (fun K hK => ?_) AllReadyH.nil
  go_simp
  (go_at_call 21; refine (HFR.out w3 hc3).mono ?_; rintro e w4 ⟨rfl, hb4⟩; have hc4 : Below w.heap.size w w4 := Below.trans hc3 (hb4.mono (Below.size hc3)); have s4 := HS1.out w4 hc4)
  go_wp2_with fail
  refine hK.out _ _ ?n1s11 (fun hNow => ?n1r11)
  case n1s11 => exact s4
  case n1r11 =>
  clear hK K hHeld
  have hHeld := hNow
  clear hNow
  (try simp only [Act.put, List.setIfInBounds_toArray, List.set_cons_zero, List.set_cons_succ, List.getElem_toArray, List.getElem_cons_succ, List.getElem_cons_zero])
  refine wpAnyH_ready (rs := [13]) (by kernel_rfl) (by simp) ?_
  refine AllReadyH.cons (o := _) rfl (fun K hK => ?_) AllReadyH.nil
  go_simp
  (go_at_call 23; refine (HRF.out w4 hc4).mono ?_; rintro e w5 ⟨rfl, hb5⟩; have hc5 : Below w.heap.size w w5 := Below.trans hc4 (hb5.mono (Below.size hc4)); have s5 := HS1.out w5 hc5)
  go_wp2_with fail
  refine hK.out _ _ ?n1s13 (fun hNow => ?n1r13)
  case n1s13 => exact s5
  case n1r13 =>
  clear hK K hHeld
  have hHeld := hNow
  clear hNow
  (try simp only [Act.put, List.setIfInBounds_toArray, List.set_cons_zero, List.set_cons_succ, List.getElem_toArray, List.getElem_cons_succ, List.getElem_cons_zero])
  refine wpAnyH_take (i := 14) (oi := _) (v := ?n1v14) rfl (by kernel_rfl) (by kernel_rfl) (by kernel_rfl) (fun _ _ _ h => h) (Or.inl ⟨by rfl, ?n1y14⟩) hHeld ?n1r14
  case n1y14 => (intro w hSw; (try dsimp only at hSw); go_simp; (first | done | with_reducible rfl))
  case n1r14 =>
  (try simp only [Act.put, List.setIfInBounds_toArray, List.set_cons_zero, List.set_cons_succ, List.getElem_toArray, List.getElem_cons_succ, List.getElem_cons_zero])
  refine wpAnyH_take (i := 15) (oi := _) (v := ?n1v15) rfl (by kernel_rfl) (by kernel_rfl) (by kernel_rfl) (fun _ _ _ h => h) (Or.inl ⟨by rfl, ?n1y15⟩) hHeld ?n1r15
  case n1y15 => (intro w hSw; (try dsimp only at hSw); go_simp; (first | done | with_reducible rfl))
  case n1r15 =>
  (try simp only [Act.put, List.setIfInBounds_toArray, List.set_cons_zero, List.set_cons_succ, List.getElem_toArray, List.getElem_cons_succ, List.getElem_cons_zero])
  refine wpAnyH_take (i := 16) (oi := _) (v := ?n1v16) rfl (by kernel_rfl) (by kernel_rfl) (by kernel_rfl) (fun _ _ _ h => h) (Or.inl ⟨by rfl, ?n1y16⟩) hHeld ?n1r16
  case n1y16 => (intro w hSw; (try dsimp only at hSw); go_simp; (first | done | with_reducible rfl))
  case n1r16 =>
  (try simp only [Act.put, List.setIfInBounds_toArray, List.set_cons_zero, List.set_cons_succ, List.getElem_toArray, List.getElem_cons_succ, List.getElem_cons_zero])
  refine wpAnyH_take (i := 17) (oi := _) (v := ?n1v17) rfl (by kernel_rfl) (by kernel_rfl) (by kernel_rfl) (fun _ _ _ h => h) (Or.inl ⟨by rfl, ?n1y17⟩) hHeld ?n1r17
  case n1y17 => (intro w hSw; (try dsimp only at hSw); go_simp; (first | done | with_reducible rfl))
  case n1r17 =>
  (try simp only [Act.put, List.setIfInBounds_toArray, List.set_cons_zero, List.set_cons_succ, List.getElem_toArray, List.getElem_cons_succ, List.getElem_cons_zero])
  refine wpAnyH_take (i := 19) (oi := _) (v := ?n1v19) rfl (by kernel_rfl) (by kernel_rfl) (by kernel_rfl) (fun _ _ _ h => h) (Or.inl ⟨by rfl, ?n1y19⟩) hHeld ?n1r19
  case n1y19 => (intro w hSw; (try dsimp only at hSw); go_simp; (first | done | with_reducible rfl))
  case n1r19 =>
  (try simp only [Act.put, List.setIfInBounds_toArray, List.set_cons_zero, List.set_cons_succ, List.getElem_toArray, List.getElem_cons_succ, List.getElem_cons_zero])
  refine wpAnyH_take (i := 20) (oi := _) (v := ?n1v20) rfl (by kernel_rfl) (by kernel_rfl) (by kernel_rfl) (fun _ _ _ h => h) (Or.inl ⟨by rfl, ?n1y20⟩) hHeld ?n1r20
  case n1y20 => (intro w hSw; (try dsimp only at hSw); go_simp; (first | done | with_reducible rfl))
  case n1r20 =>
  (try simp only [Act.put, List.setIfInBounds_toArray, List.set_cons_zero, List.set_cons_succ, List.getElem_toArray, List.getElem_cons_succ, List.getElem_cons_zero])
  refine wpAnyH_take (i := 21) (oi := _) (v := ?n1v21) rfl (by kernel_rfl) (by kernel_rfl) (by kernel_rfl) (fun _ _ _ h => h) (Or.inl ⟨by rfl, ?n1y21⟩) hHeld ?n1r21
  case n1y21 => (intro w hSw; (try dsimp only at hSw); go_simp; (first | done | with_reducible rfl))
  case n1r21 =>
  (try simp only [Act.put, List.setIfInBounds_toArray, List.set_cons_zero, List.set_cons_succ, List.getElem_toArray, List.getElem_cons_succ, List.getElem_cons_zero])
  refine wpAnyH_take (i := 22) (oi := _) (v := ?n1v22) rfl (by kernel_rfl) (by kernel_rfl) (by kernel_rfl) (fun _ _ _ h => h) (Or.inl ⟨by rfl, ?n1y22⟩) hHeld ?n1r22
  case n1y22 => (intro w hSw; (try dsimp only at hSw); go_simp; (first | done | with_reducible rfl))
  case n1r22 =>
  (try simp only [Act.put, List.setIfInBounds_toArray, List.set_cons_zero, List.set_cons_succ, List.getElem_toArray, List.getElem_cons_succ, List.getElem_cons_zero])
  refine wpAnyH_ready (rs := [18]) (by kernel_rfl) (by simp) ?_
  refine AllReadyH.cons (o := _) rfl (fun K hK => ?_) AllReadyH.nil
  go_simp
  (go_at_call 11; refine (HGO.out w5 hc5).mono ?_; rintro e w6 ⟨rfl, hb6⟩; have hc6 : Below w.heap.size w w6 := Below.trans hc5 (hb6.mono (Below.size hc5)); have s6 := HS1.out w6 hc6)
  go_wp2_with fail
  refine hK.out _ _ ?n1s18 (fun hNow => ?n1r18)
  case n1s18 => exact s6
  case n1r18 =>
  clear hK K hHeld
  have hHeld := hNow
  clear hNow
  (try simp only [Act.put, List.setIfInBounds_toArray, List.set_cons_zero, List.set_cons_succ, List.getElem_toArray, List.getElem_cons_succ, List.getElem_cons_zero])
  refine wpAnyH_take (i := 23) (oi := _) (v := ?n1v23) rfl (by kernel_rfl) (by kernel_rfl) (by kernel_rfl) (fun _ _ _ h => h) (Or.inl ⟨by rfl, ?n1y23⟩) hHeld ?n1r23
  case n1y23 => (intro w hSw; (try dsimp only at hSw); go_simp; (first | done | with_reducible rfl))
  case n1r23 =>
  (try simp only [Act.put, List.setIfInBounds_toArray, List.set_cons_zero, List.set_cons_succ, List.getElem_toArray, List.getElem_cons_succ, List.getElem_cons_zero])
  refine wpAnyH_take (i := 24) (oi := _) (v := ?n1v24) rfl (by kernel_rfl) (by kernel_rfl) (by kernel_rfl) (fun _ _ _ h => h) (Or.inl ⟨by rfl, ?n1y24⟩) hHeld ?n1r24
  case n1y24 => (intro w hSw; (try dsimp only at hSw); go_simp; (first | done | with_reducible rfl))
  case n1r24 =>
  (try simp only [Act.put, List.setIfInBounds_toArray, List.set_cons_zero, List.set_cons_succ, List.getElem_toArray, List.getElem_cons_succ, List.getElem_cons_zero])
  refine wpAnyH_done (by kernel_rfl) ?_ _
  go_wp2_with (go_at_call 10; (with_reducible refine (HNM.out _ hc6).mono ?_); rintro e w10 ⟨An, cn, rfl, hcn1, hcn2, hln, hb10⟩; have hc10 : Below w.heap.size w w10 := hc6.trans (hb10.mono hc6.size); have y1 := HC1.out w10 hc10)
  have HY10 := Lib.hid hc10
  have HLN := Lib.hid hln
  clear hln y1
  clear HU HRU HFR HRF HGO HNM HS1 hb10 s2 s3 s4 s5 s6
  clear hb2 hb3 hb4 hb5 hb6 hc2 hc3 hc4 hc5 hc6
  go_loopw [51] (fun iv wr => ∃ i : Nat, i ≤ n ∧ iv = .int .i64 i ∧ Hid (Below w10.heap.size w10 wr)) (fun iv _ => n - (RowKit.intOf iv).toNat)
  case atStart => exact ⟨0, by omega, rfl, Below.refl _ _⟩
  case round =>
    obtain ⟨i, hi, rfl, HB⟩ := hrel
    have HBW : Hid (Below w.heap.size w wr) := HY10.out.trans (HB.out.mono HY10.out.size)
    by_cases hit : i < n
    · have hiz : (i : Int) < (n : Int) := by omega
      obtain ⟨f, hfm, hfi, hfe, hfa, hfn, hfl⟩ := HFI.out i hit
      obtain ⟨q, rfl, _, s0, s1, s2⟩ := Fs.row (HF.out wr HBW.out) hit
      rw [hfe] at s0 s1 s2
      obtain ⟨qn, hqn, hqb, hqc⟩ := HLN.out.get i (.string f.name) (by rw [List.getElem?_map, List.getElem?_map, hfi]; rfl)
      subst hqn
      have hnc : ∀ W, Below w10.heap.size w10 W → W.cell? (qn.add i) = some (.string f.name) := fun W hW => (hW.cell (by rw [add_block]; exact hqb)).trans hqc
      have hal := (Below.refl wr.heap.size wr).alloc (Nat.le_refl _) (.cells #[.string f.name, .string (bst f.b), .int .i64 (f.kept : Int)] 84)
      have hN2 := heap_alloc_new wr (.cells #[.string f.name, .string (bst f.b), .int .i64 (f.kept : Int)] 84)
      obtain ⟨w6, hw6⟩ : ∃ w6, wr.alloc (.cells #[.string f.name, .string (bst f.b), .int .i64 (f.kept : Int)] 84) = w6 := ⟨_, rfl⟩
      rw [hw6] at hal hN2
      have hbw6 : Below w.heap.size w w6 := HBW.out.trans (hal.mono HBW.out.size)
      have hb106 : Below w10.heap.size w10 w6 := HB.out.trans (hal.mono HB.out.size)
      have hsz : f.b.length = (bst f.b).size := (bst_size f.b).symm
      have HRD : Hid (Calls Try.prog 12 #[.pointer (some ⟨d, 0, none⟩), .string f.name] w6 fun e w' => ∃ Ab cb, e = .returned (.tuple #[.slice Ab (bst f.b).size cb, .int .i64 0]) ∧ Own w' w6.heap.size (.slice Ab (bst f.b).size cb) f.b ∧ Below w6.heap.size w6 w') := (read_any4 base d D f.name w6 (HD.out w6 hbw6) (by unfold maxLen; omega)).mono fun e w' hh => by
        obtain ⟨h1, h2⟩ := hh
        rw [hfa] at h1
        obtain ⟨v', he, ho⟩ := h1
        obtain ⟨Ab, cb, hv, _⟩ := slice_of_row ho
        rw [hsz] at hv
        subst hv
        exact ⟨Ab, cb, he, ho, h2⟩
      have HSI : Hid (∀ W, Below w.heap.size w W → Calls Try.prog 51 #[.pointer (some ⟨d, 0, none⟩), .string f.name] W fun e w' => e = .returned (.int .i64 ((bst f.b).size : Int)) ∧ w' = W) := fun W hW => by
        have h1 := size_any4 base d D f.name W (HD.out W hW) (by unfold maxLen; omega)
        rw [hfa] at h1
        rw [← hsz]
        exact h1
      have HKE : Hid (∀ W, Below w.heap.size w W → Calls Try.prog 13 #[.pointer (some ⟨d, 0, none⟩), .string f.name] W fun e w' => e = .returned (.int .i64 (f.kept : Int)) ∧ w' = W) := fun W hW => by
        have h1 := kept_any4 base d D f.name W (HD.out W hW) (by unfold maxLen; omega)
        rw [hfa] at h1
        exact h1
      have HCV : Hid (∀ W Ab cb, Own W w6.heap.size (.slice Ab (bst f.b).size cb) f.b → (convert 33 9 (.slice Ab (bst f.b).size cb)).run Try.prog W = .ok (.string (bst f.b)) W) := fun W Ab cb ho => by
        have b7 : Bs W W.heap.size Ab (bst f.b).size f.b := ⟨hsz, by have ho' := ho; unfold Own at ho'; rw [hsz] at ho'; exact Lies.of_row ho'⟩
        exact b7.str (P := Try.prog) (src := 33) (dst := 9) (e := 5) Try.underlying33 Try.underlying5 Try.underlying9 cb
      rw [hsz] at hfl
      have HLF : Hid (f.b.length = (bst f.b).size) := hsz
      simp only [Hd.f] at s0 s1 s2
      generalize bst f.b = bf at *
      generalize f.b = fl at *
      generalize f.name = fn at *
      generalize f.kept = kf at *
      have HW6 := Lib.hid hw6
      have HBW6 := Lib.hid hbw6
      have HB106 := Lib.hid hb106
      have HNC := Lib.hid hnc
      have HN2 := Lib.hid hN2
      clear hw6 hbw6 hb106 hal hqb hqc hnc hfm hfi hfe hfa hsz hN2
      go_upto_region 9 with fail
      rw [HW6.out]
      clear s0 s1 s2
      obtain ⟨fq, hfq⟩ : ∃ fq, wr.heap.size = fq := ⟨_, rfl⟩
      rw [hfq] at HN2
      have t0 := cell_of_row _ _ 0 _ _ _ HN2.out
      have hfql : fq < w6.heap.size := (Array.getElem?_eq_some_iff.1 HN2.out).1
      go_upto_region 10 with (go_at_call 12; (with_reducible refine HRD.out.mono ?_); rintro e w7 ⟨Ab, cb, rfl, ho7, hb7⟩)
      have HB7 := Lib.hid hb7
      have HO7 := Lib.hid ho7
      have hz7 := hb7.size
      have HBW7 : Hid (Below w.heap.size w w7) := HBW6.out.trans (hb7.mono HBW6.out.size)
      have HS2 : Hid (∀ W, Below w7.heap.size w7 W → W.cell? (qn.add i) = some (.string fn) ∧ W.cell? ⟨fq, 0, none⟩ = some (.string fn) ∧ W.cell? ⟨fq, 1, none⟩ = some (.string bf) ∧ W.cell? ⟨fq, 2, none⟩ = some (.int .i64 (kf : Int)) ∧ (convert 33 9 (.slice Ab bf.size cb)).run Try.prog W = .ok (.string bf) W) := fun W hW => by
        have hb67 : Below w6.heap.size w6 W := hb7.trans (hW.mono hz7)
        have hx := (hb67.block fq hfql).trans HN2.out
        exact ⟨HNC.out W (HB106.out.trans (hb67.mono HB106.out.size)), cell_of_row _ _ 0 _ _ _ hx, cell_of_row _ _ 1 _ _ _ hx, cell_of_row _ _ 2 _ _ _ hx, HCV.out W Ab cb (HO7.out.below hW (Nat.le_refl _))⟩
      have HSI := Lib.hid (fun W hW => HSI.out W (HBW7.out.trans (Below.mono hW HBW7.out.size)))
      have HKE := Lib.hid (fun W hW => HKE.out W (HBW7.out.trans (Below.mono hW HBW7.out.size)))
      clear ho7 hb7 t0 HCV HRD HBW6
      refine wp_region_held_drew (S := fun w' => w'.cell? (qn.add i) = some (.string fn) ∧ w'.cell? ⟨fq, 0, none⟩ = some (.string fn) ∧ w'.cell? ⟨fq, 1, none⟩ = some (.string bf) ∧ w'.cell? ⟨fq, 2, none⟩ = some (.int .i64 (kf : Int)) ∧ (convert 33 9 (.slice Ab bf.size cb)).run Try.prog w' = .ok (.string bf) w') (by kernel_rfl) (HS2.out w7.drew ((Below.refl w7.heap.size w7).drew)) (fun hHeld => ?_)
      refine wpAnyH_take (i := 0) (oi := _) (v := ?n2v0) rfl (by kernel_rfl) (by kernel_rfl) (by kernel_rfl) (fun _ _ _ h => h) (Or.inl ⟨by rfl, ?n2y0⟩) hHeld ?n2r0
      case n2y0 => (intro w hSw; (try dsimp only at hSw); go_simp; (first | done | with_reducible rfl))
      case n2r0 =>
      (try simp only [Act.put, List.setIfInBounds_toArray, List.set_cons_zero, List.set_cons_succ, List.getElem_toArray, List.getElem_cons_succ, List.getElem_cons_zero])
      refine wpAnyH_take (i := 1) (oi := _) (v := ?n2v1) rfl (by kernel_rfl) (by kernel_rfl) (by kernel_rfl) (fun _ _ _ h => h) (Or.inl ⟨by rfl, ?n2y1⟩) hHeld ?n2r1
      case n2y1 => (intro w hSw; (try dsimp only at hSw); go_simp; (first | done | with_reducible rfl))
      case n2r1 =>
      (try simp only [Act.put, List.setIfInBounds_toArray, List.set_cons_zero, List.set_cons_succ, List.getElem_toArray, List.getElem_cons_succ, List.getElem_cons_zero])
      refine wpAnyH_take (i := 2) (oi := _) (v := ?n2v2) rfl (by kernel_rfl) (by kernel_rfl) (by kernel_rfl) (fun _ _ _ h => h) (Or.inl ⟨by rfl, ?n2y2⟩) hHeld ?n2r2
      case n2y2 => (intro w hSw; (try dsimp only at hSw); go_simp; (first | done | with_reducible rfl))
      case n2r2 =>
      (try simp only [Act.put, List.setIfInBounds_toArray, List.set_cons_zero, List.set_cons_succ, List.getElem_toArray, List.getElem_cons_succ, List.getElem_cons_zero])
      refine wpAnyH_take (i := 3) (oi := _) (v := ?n2v3) rfl (by kernel_rfl) (by kernel_rfl) (by kernel_rfl) (fun _ _ _ h => h) (Or.inl ⟨by rfl, ?n2y3⟩) hHeld ?n2r3
      case n2y3 => (intro w hSw; (try dsimp only at hSw); go_simp; (first | done | with_reducible rfl))
      case n2r3 =>
      (try simp only [Act.put, List.setIfInBounds_toArray, List.set_cons_zero, List.set_cons_succ, List.getElem_toArray, List.getElem_cons_succ, List.getElem_cons_zero])
      refine wpAnyH_take (i := 4) (oi := _) (v := ?n2v4) rfl (by kernel_rfl) (by kernel_rfl) (by kernel_rfl) (fun _ _ _ h => h) (Or.inl ⟨by rfl, ?n2y4⟩) hHeld ?n2r4
      case n2y4 => (intro w hSw; (try dsimp only at hSw); go_simp; (first | done | with_reducible rfl))
      case n2r4 =>
      (try simp only [Act.put, List.setIfInBounds_toArray, List.set_cons_zero, List.set_cons_succ, List.getElem_toArray, List.getElem_cons_succ, List.getElem_cons_zero])
      refine wpAnyH_take (i := 5) (oi := _) (v := ?n2v5) rfl (by kernel_rfl) (by kernel_rfl) (by kernel_rfl) (fun _ _ _ h => h) (Or.inl ⟨by rfl, ?n2y5⟩) hHeld ?n2r5
      case n2y5 => (intro w hSw; (try dsimp only at hSw); go_simp; (first | done | with_reducible rfl))
      case n2r5 =>
      (try simp only [Act.put, List.setIfInBounds_toArray, List.set_cons_zero, List.set_cons_succ, List.getElem_toArray, List.getElem_cons_succ, List.getElem_cons_zero])
      refine wpAnyH_take (i := 6) (oi := _) (v := ?n2v6) rfl (by kernel_rfl) (by kernel_rfl) (by kernel_rfl) (fun _ _ _ h => h) (Or.inl ⟨by rfl, ?n2y6⟩) hHeld ?n2r6
      case n2y6 => (intro w hSw; (try dsimp only at hSw); go_simp; (first | done | with_reducible rfl))
      case n2r6 =>
      (try simp only [Act.put, List.setIfInBounds_toArray, List.set_cons_zero, List.set_cons_succ, List.getElem_toArray, List.getElem_cons_succ, List.getElem_cons_zero])
      refine wpAnyH_take (i := 7) (oi := _) (v := ?n2v7) rfl (by kernel_rfl) (by kernel_rfl) (by kernel_rfl) (fun _ _ _ h => h) (Or.inl ⟨by rfl, ?n2y7⟩) hHeld ?n2r7
      case n2y7 => (intro w hSw; (try dsimp only at hSw); go_simp; (first | done | with_reducible rfl))
      case n2r7 =>
      (try simp only [Act.put, List.setIfInBounds_toArray, List.set_cons_zero, List.set_cons_succ, List.getElem_toArray, List.getElem_cons_succ, List.getElem_cons_zero])
      refine wpAnyH_take (i := 8) (oi := _) (v := ?n2v8) rfl (by kernel_rfl) (by kernel_rfl) (by kernel_rfl) (fun _ _ _ h => h) (Or.inl ⟨by rfl, ?n2y8⟩) hHeld ?n2r8
      case n2y8 => (intro w hSw; (try dsimp only at hSw); go_simp; (first | done | with_reducible rfl))
      case n2r8 =>
      (try simp only [Act.put, List.setIfInBounds_toArray, List.set_cons_zero, List.set_cons_succ, List.getElem_toArray, List.getElem_cons_succ, List.getElem_cons_zero])
      refine wpAnyH_take (i := 9) (oi := _) (v := ?n2v9) rfl (by kernel_rfl) (by kernel_rfl) (by kernel_rfl) (fun _ _ _ h => h) (Or.inl ⟨by rfl, ?n2y9⟩) hHeld ?n2r9
      case n2y9 => (intro w hSw; (try dsimp only at hSw); go_simp; (first | done | with_reducible rfl))
      case n2r9 =>
      (try simp only [Act.put, List.setIfInBounds_toArray, List.set_cons_zero, List.set_cons_succ, List.getElem_toArray, List.getElem_cons_succ, List.getElem_cons_zero])
      refine wpAnyH_take (i := 10) (oi := _) (v := ?n2v10) rfl (by kernel_rfl) (by kernel_rfl) (by kernel_rfl) (fun _ _ _ h => h) (Or.inl ⟨by rfl, ?n2y10⟩) hHeld ?n2r10
      case n2y10 => (intro w hSw; (try dsimp only at hSw); go_simp; (first | done | with_reducible rfl))
      case n2r10 =>
      (try simp only [Act.put, List.setIfInBounds_toArray, List.set_cons_zero, List.set_cons_succ, List.getElem_toArray, List.getElem_cons_succ, List.getElem_cons_zero])
      refine wpAnyH_take (i := 11) (oi := _) (v := ?n2v11) rfl (by kernel_rfl) (by kernel_rfl) (by kernel_rfl) (fun _ _ _ h => h) (Or.inl ⟨by rfl, ?n2y11⟩) hHeld ?n2r11
      case n2y11 => (intro w hSw; (try dsimp only at hSw); go_simp; (first | done | with_reducible rfl))
      case n2r11 =>
      (try simp only [Act.put, List.setIfInBounds_toArray, List.set_cons_zero, List.set_cons_succ, List.getElem_toArray, List.getElem_cons_succ, List.getElem_cons_zero])
      refine wpAnyH_take (i := 12) (oi := _) (v := ?n2v12) rfl (by kernel_rfl) (by kernel_rfl) (by kernel_rfl) (fun _ _ _ h => h) (Or.inl ⟨by rfl, ?n2y12⟩) hHeld ?n2r12
      case n2y12 => (intro w hSw; (try dsimp only at hSw); go_simp; (first | done | with_reducible rfl))
      case n2r12 =>
      (try simp only [Act.put, List.setIfInBounds_toArray, List.set_cons_zero, List.set_cons_succ, List.getElem_toArray, List.getElem_cons_succ, List.getElem_cons_zero])
      refine wpAnyH_take (i := 13) (oi := _) (v := ?n2v13) rfl (by kernel_rfl) (by kernel_rfl) (by kernel_rfl) (fun _ _ _ h => h) (Or.inl ⟨by rfl, ?n2y13⟩) hHeld ?n2r13
      case n2y13 => (intro w hSw; (try dsimp only at hSw); go_simp; (first | done | with_reducible rfl))
      case n2r13 =>
      (try simp only [Act.put, List.setIfInBounds_toArray, List.set_cons_zero, List.set_cons_succ, List.getElem_toArray, List.getElem_cons_succ, List.getElem_cons_zero])
      refine wpAnyH_take (i := 14) (oi := _) (v := ?n2v14) rfl (by kernel_rfl) (by kernel_rfl) (by kernel_rfl) (fun _ _ _ h => h) (Or.inl ⟨by rfl, ?n2y14⟩) hHeld ?n2r14
      case n2y14 => (intro w hSw; (try dsimp only at hSw); go_simp; (first | done | with_reducible rfl))
      case n2r14 =>
      (try simp only [Act.put, List.setIfInBounds_toArray, List.set_cons_zero, List.set_cons_succ, List.getElem_toArray, List.getElem_cons_succ, List.getElem_cons_zero])
      refine wpAnyH_take (i := 15) (oi := _) (v := ?n2v15) rfl (by kernel_rfl) (by kernel_rfl) (by kernel_rfl) (fun _ _ _ h => h) (Or.inl ⟨by rfl, ?n2y15⟩) hHeld ?n2r15
      case n2y15 => (intro w hSw; (try dsimp only at hSw); go_simp; (first | done | with_reducible rfl))
      case n2r15 =>
      (try simp only [Act.put, List.setIfInBounds_toArray, List.set_cons_zero, List.set_cons_succ, List.getElem_toArray, List.getElem_cons_succ, List.getElem_cons_zero])
      refine wpAnyH_take (i := 16) (oi := _) (v := ?n2v16) rfl (by kernel_rfl) (by kernel_rfl) (by kernel_rfl) (fun _ _ _ h => h) (Or.inl ⟨by rfl, ?n2y16⟩) hHeld ?n2r16
      case n2y16 => (intro w hSw; (try dsimp only at hSw); go_simp; (first | done | with_reducible rfl))
      case n2r16 =>
      (try simp only [Act.put, List.setIfInBounds_toArray, List.set_cons_zero, List.set_cons_succ, List.getElem_toArray, List.getElem_cons_succ, List.getElem_cons_zero])
      refine wpAnyH_take (i := 17) (oi := _) (v := ?n2v17) rfl (by kernel_rfl) (by kernel_rfl) (by kernel_rfl) (fun _ _ _ h => h) (Or.inl ⟨by rfl, ?n2y17⟩) hHeld ?n2r17
      case n2y17 => (intro w hSw; (try dsimp only at hSw); go_simp; (first | done | with_reducible rfl))
      case n2r17 =>
      (try simp only [Act.put, List.setIfInBounds_toArray, List.set_cons_zero, List.set_cons_succ, List.getElem_toArray, List.getElem_cons_succ, List.getElem_cons_zero])
      refine wpAnyH_take (i := 18) (oi := _) (v := ?n2v18) rfl (by kernel_rfl) (by kernel_rfl) (by kernel_rfl) (fun _ _ _ h => h) (Or.inl ⟨by rfl, ?n2y18⟩) hHeld ?n2r18
      case n2y18 => (intro w hSw; (try dsimp only at hSw); go_simp; (first | done | with_reducible rfl))
      case n2r18 =>
      (try simp only [Act.put, List.setIfInBounds_toArray, List.set_cons_zero, List.set_cons_succ, List.getElem_toArray, List.getElem_cons_succ, List.getElem_cons_zero])
      refine wpAnyH_take (i := 19) (oi := _) (v := ?n2v19) rfl (by kernel_rfl) (by kernel_rfl) (by kernel_rfl) (fun _ _ _ h => h) (Or.inl ⟨by rfl, ?n2y19⟩) hHeld ?n2r19
      case n2y19 => (intro w hSw; (try dsimp only at hSw); go_simp; (first | done | with_reducible rfl))
      case n2r19 =>
      (try simp only [Act.put, List.setIfInBounds_toArray, List.set_cons_zero, List.set_cons_succ, List.getElem_toArray, List.getElem_cons_succ, List.getElem_cons_zero])
      refine wpAnyH_take (i := 20) (oi := _) (v := ?n2v20) rfl (by kernel_rfl) (by kernel_rfl) (by kernel_rfl) (fun _ _ _ h => h) (Or.inl ⟨by rfl, ?n2y20⟩) hHeld ?n2r20
      case n2y20 => (intro w hSw; (try dsimp only at hSw); go_simp; (first | done | with_reducible rfl))
      case n2r20 =>
      (try simp only [Act.put, List.setIfInBounds_toArray, List.set_cons_zero, List.set_cons_succ, List.getElem_toArray, List.getElem_cons_succ, List.getElem_cons_zero])
      refine wpAnyH_take (i := 21) (oi := _) (v := ?n2v21) rfl (by kernel_rfl) (by kernel_rfl) (by kernel_rfl) (fun _ _ _ h => h) (Or.inl ⟨by rfl, ?n2y21⟩) hHeld ?n2r21
      case n2y21 => (intro w hSw; (try dsimp only at hSw); go_simp; (first | done | with_reducible rfl))
      case n2r21 =>
      (try simp only [Act.put, List.setIfInBounds_toArray, List.set_cons_zero, List.set_cons_succ, List.getElem_toArray, List.getElem_cons_succ, List.getElem_cons_zero])
      refine wpAnyH_take (i := 23) (oi := _) (v := ?n2v23) rfl (by kernel_rfl) (by kernel_rfl) (by kernel_rfl) (fun _ _ _ h => h) (Or.inl ⟨by rfl, ?n2y23⟩) hHeld ?n2r23
      case n2y23 => (intro w hSw; (try dsimp only at hSw); go_simp; (first | done | with_reducible rfl))
      case n2r23 =>
      (try simp only [Act.put, List.setIfInBounds_toArray, List.set_cons_zero, List.set_cons_succ, List.getElem_toArray, List.getElem_cons_succ, List.getElem_cons_zero])
      refine wpAnyH_take (i := 24) (oi := _) (v := ?n2v24) rfl (by kernel_rfl) (by kernel_rfl) (by kernel_rfl) (fun _ _ _ h => h) (Or.inl ⟨by rfl, ?n2y24⟩) hHeld ?n2r24
      case n2y24 => (intro w hSw; (try dsimp only at hSw); go_simp; (first | done | with_reducible rfl))
      case n2r24 =>
      (try simp only [Act.put, List.setIfInBounds_toArray, List.set_cons_zero, List.set_cons_succ, List.getElem_toArray, List.getElem_cons_succ, List.getElem_cons_zero])
      refine wpAnyH_take (i := 25) (oi := _) (v := ?n2v25) rfl (by kernel_rfl) (by kernel_rfl) (by kernel_rfl) (fun _ _ _ h => h) (Or.inl ⟨by rfl, ?n2y25⟩) hHeld ?n2r25
      case n2y25 => (intro w hSw; (try dsimp only at hSw); go_simp; (first | done | with_reducible rfl))
      case n2r25 =>
      (try simp only [Act.put, List.setIfInBounds_toArray, List.set_cons_zero, List.set_cons_succ, List.getElem_toArray, List.getElem_cons_succ, List.getElem_cons_zero])
      refine wpAnyH_ready (rs := [22]) (by kernel_rfl) (by simp) ?_
      refine AllReadyH.cons (o := _) rfl (fun K hK => ?_) AllReadyH.nil
      go_simp
      (go_at_call 51; refine (HSI.out w7.drew ((Below.refl w7.heap.size w7).drew)).mono ?_; rintro e w8 ⟨rfl, hw8⟩; have hw8' := hw8.symm; subst hw8')
      go_wp2_with fail
      refine hK.out _ _ ?n2s22 (fun hNow => ?n2r22)
      case n2s22 => exact HS2.out _ ((Below.refl w7.heap.size w7).drew)
      case n2r22 =>
      clear hK K hHeld
      have hHeld := hNow
      clear hNow
      (try simp only [Act.put, List.setIfInBounds_toArray, List.set_cons_zero, List.set_cons_succ, List.getElem_toArray, List.getElem_cons_succ, List.getElem_cons_zero])
      refine wpAnyH_take (i := 26) (oi := _) (v := ?n2v26) rfl (by kernel_rfl) (by kernel_rfl) (by kernel_rfl) (fun _ _ _ h => h) (Or.inl ⟨by rfl, ?n2y26⟩) hHeld ?n2r26
      case n2y26 => (intro w hSw; (try dsimp only at hSw); go_simp; (first | done | with_reducible rfl))
      case n2r26 =>
      (try simp only [Act.put, List.setIfInBounds_toArray, List.set_cons_zero, List.set_cons_succ, List.getElem_toArray, List.getElem_cons_succ, List.getElem_cons_zero])
      refine wpAnyH_take (i := 27) (oi := _) (v := ?n2v27) rfl (by kernel_rfl) (by kernel_rfl) (by kernel_rfl) (fun _ _ _ h => h) (Or.inl ⟨by rfl, ?n2y27⟩) hHeld ?n2r27
      case n2y27 => (intro w hSw; (try dsimp only at hSw); go_simp; (first | done | with_reducible rfl))
      case n2r27 =>
      (try simp only [Act.put, List.setIfInBounds_toArray, List.set_cons_zero, List.set_cons_succ, List.getElem_toArray, List.getElem_cons_succ, List.getElem_cons_zero])
      refine wpAnyH_take (i := 28) (oi := _) (v := ?n2v28) rfl (by kernel_rfl) (by kernel_rfl) (by kernel_rfl) (fun _ _ _ h => h) (Or.inl ⟨by rfl, ?n2y28⟩) hHeld ?n2r28
      case n2y28 => (intro w hSw; (try dsimp only at hSw); go_simp; (first | done | with_reducible rfl))
      case n2r28 =>
      (try simp only [Act.put, List.setIfInBounds_toArray, List.set_cons_zero, List.set_cons_succ, List.getElem_toArray, List.getElem_cons_succ, List.getElem_cons_zero])
      refine wpAnyH_take (i := 29) (oi := _) (v := ?n2v29) rfl (by kernel_rfl) (by kernel_rfl) (by kernel_rfl) (fun _ _ _ h => h) (Or.inl ⟨by rfl, ?n2y29⟩) hHeld ?n2r29
      case n2y29 => (intro w hSw; (try dsimp only at hSw); go_simp; (first | done | with_reducible rfl))
      case n2r29 =>
      (try simp only [Act.put, List.setIfInBounds_toArray, List.set_cons_zero, List.set_cons_succ, List.getElem_toArray, List.getElem_cons_succ, List.getElem_cons_zero])
      refine wpAnyH_take (i := 30) (oi := _) (v := ?n2v30) rfl (by kernel_rfl) (by kernel_rfl) (by kernel_rfl) (fun _ _ _ h => h) (Or.inl ⟨by rfl, ?n2y30⟩) hHeld ?n2r30
      case n2y30 => (intro w hSw; (try dsimp only at hSw); go_simp; (first | done | with_reducible rfl))
      case n2r30 =>
      (try simp only [Act.put, List.setIfInBounds_toArray, List.set_cons_zero, List.set_cons_succ, List.getElem_toArray, List.getElem_cons_succ, List.getElem_cons_zero])
      refine wpAnyH_take (i := 31) (oi := _) (v := ?n2v31) rfl (by kernel_rfl) (by kernel_rfl) (by kernel_rfl) (fun _ _ _ h => h) (Or.inl ⟨by rfl, ?n2y31⟩) hHeld ?n2r31
      case n2y31 => (intro w hSw; (try dsimp only at hSw); go_simp; (first | done | with_reducible rfl))
      case n2r31 =>
      (try simp only [Act.put, List.setIfInBounds_toArray, List.set_cons_zero, List.set_cons_succ, List.getElem_toArray, List.getElem_cons_succ, List.getElem_cons_zero])
      refine wpAnyH_take (i := 33) (oi := _) (v := ?n2v33) rfl (by kernel_rfl) (by kernel_rfl) (by kernel_rfl) (fun _ _ _ h => h) (Or.inl ⟨by rfl, ?n2y33⟩) hHeld ?n2r33
      case n2y33 => (intro w hSw; (try dsimp only at hSw); go_simp; (first | done | with_reducible rfl))
      case n2r33 =>
      (try simp only [Act.put, List.setIfInBounds_toArray, List.set_cons_zero, List.set_cons_succ, List.getElem_toArray, List.getElem_cons_succ, List.getElem_cons_zero])
      refine wpAnyH_take (i := 34) (oi := _) (v := ?n2v34) rfl (by kernel_rfl) (by kernel_rfl) (by kernel_rfl) (fun _ _ _ h => h) (Or.inl ⟨by rfl, ?n2y34⟩) hHeld ?n2r34
      case n2y34 => (intro w hSw; (try dsimp only at hSw); go_simp; (first | done | with_reducible rfl))
      case n2r34 =>
      (try simp only [Act.put, List.setIfInBounds_toArray, List.set_cons_zero, List.set_cons_succ, List.getElem_toArray, List.getElem_cons_succ, List.getElem_cons_zero])
      refine wpAnyH_ready (rs := [32]) (by kernel_rfl) (by simp) ?_
      refine AllReadyH.cons (o := _) rfl (fun K hK => ?_) AllReadyH.nil
      go_simp
      (go_at_call 13; refine (HKE.out w7.drew ((Below.refl w7.heap.size w7).drew)).mono ?_; rintro e w9 ⟨rfl, hw9⟩; have hw9' := hw9.symm; subst hw9')
      go_wp2_with fail
      refine hK.out _ _ ?n2s32 (fun hNow => ?n2r32)
      case n2s32 => exact HS2.out _ ((Below.refl w7.heap.size w7).drew)
      case n2r32 =>
      clear hK K hHeld
      have hHeld := hNow
      clear hNow
      (try simp only [Act.put, List.setIfInBounds_toArray, List.set_cons_zero, List.set_cons_succ, List.getElem_toArray, List.getElem_cons_succ, List.getElem_cons_zero])
      refine wpAnyH_take (i := 35) (oi := _) (v := ?n2v35) rfl (by kernel_rfl) (by kernel_rfl) (by kernel_rfl) (fun _ _ _ h => h) (Or.inl ⟨by rfl, ?n2y35⟩) hHeld ?n2r35
      case n2y35 => (intro w hSw; (try dsimp only at hSw); go_simp; (first | done | with_reducible rfl))
      case n2r35 =>
      (try simp only [Act.put, List.setIfInBounds_toArray, List.set_cons_zero, List.set_cons_succ, List.getElem_toArray, List.getElem_cons_succ, List.getElem_cons_zero])
      refine wpAnyH_take (i := 36) (oi := _) (v := ?n2v36) rfl (by kernel_rfl) (by kernel_rfl) (by kernel_rfl) (fun _ _ _ h => h) (Or.inl ⟨by rfl, ?n2y36⟩) hHeld ?n2r36
      case n2y36 => (intro w hSw; (try dsimp only at hSw); go_simp; (first | done | with_reducible rfl))
      case n2r36 =>
      (try simp only [Act.put, List.setIfInBounds_toArray, List.set_cons_zero, List.set_cons_succ, List.getElem_toArray, List.getElem_cons_succ, List.getElem_cons_zero])
      refine wpAnyH_done (by kernel_rfl) ?_ _
      go_wp2_with fail
      go_loopw [102] (fun jv ws => ∃ (k : Nat) (l : List UInt8), k ≤ bf.size ∧ jv = .int .i64 k ∧ l.length = bf.size ∧ Hid (Own ws w6.heap.size (.slice Ab bf.size cb) l) ∧ Hid (Below w6.heap.size w6 ws)) (fun jv _ => bf.size - (RowKit.intOf jv).toNat)
      case atStart => exact ⟨0, fl, by omega, rfl, HLF.out, HO7.out.drew, HB7.out.drew⟩
      case round =>
        obtain ⟨k, l, hk, rfl, hll, HOK, HBK⟩ := hrel
        by_cases hkt : k < bf.size
        · have hkz : (k : Int) < (bf.size : Int) := by omega
          obtain ⟨g, hg, hgb⟩ := Own.head HOK.out (by omega)
          subst hg
          have y1 := Own.cell_ HOK.out hll k hkt
          have z1 := Own.free_ HOK.out hll k
          have HS7 : Hid (Own (wr.setCell ⟨g, k, none⟩ (.int .u8 7)) w6.heap.size (.slice (some ⟨g, 0, none⟩) bf.size cb) (l.set k 7)) := Own.set_ HOK.out hll k 7
          have HB8 := Lib.hid (HBK.out.setCell (p := ⟨g, k, none⟩) hgb (.int .u8 7))
          have hll2 : (l.set k 7).length = bf.size := by rw [List.length_set]; exact hll
          have HLL := Lib.hid hll2
          clear hll hll2
          go_wp2_with fail
          go_roundw
          case rel => exact ⟨k + 1, l.set k 7, by omega, by go_num, HLL.out, HS7, HB8⟩
          case measure => simp [RowKit.intOf]; omega
        · have d9 : decide ((k : Int) < (bf.size : Int)) = false := by rw [decide_eq_false_iff_not]; omega
          have d9' : decide (k < bf.size) = false := decide_eq_false hkt
          have HBE : Hid (Below w10.heap.size w10 wr) := HB106.out.trans (HBK.out.mono HB106.out.size)
          clear hll
          go_wp2_with fail
          go_roundw
          case rel => exact ⟨i + 1, by omega, by go_num, HBE⟩
          case measure => simp [RowKit.intOf]; omega
    · have d8 : decide ((i : Int) < (n : Int)) = false := by rw [decide_eq_false_iff_not]; omega
      go_wp2_with fail
      go_ret
      exact ⟨rfl, HBW.out⟩
end Go.Proofs.Ytebkgcnldbkgeaa
