/-
  What one call of a table does, beside the document's.
-/
import Derived.Test.YtmlekkbjmfknfaaCtO
namespace Go.Proofs.Ytmlekkbjmfknfaa
open Go.RowKit Go.Lib Go.Sort
set_option linter.unusedVariables false
set_option linter.unusedSimpArgs false

set_option maxRecDepth 100000 in
theorem eqlRec9 (k v : ByteArray) (g : Bool) (t : Int) (w : World) : (binOp .eql 79 (.agg #[.string k, .string v, .bool g, .int .i64 t]) (.agg #[.string k, .string v, .bool g, .int .i64 t])).run Try.prog w = .ok (.bool true) w := by
  have u3 := Try.underlying9
  have u2 := Try.underlying2
  have u1 := Try.underlying4
  have a3 := Try.isAgg9
  have z3 := Try.sizeOf9
  have a2 := Try.isAgg2
  have z2 := Try.sizeOf2
  have a1 := Try.isAgg4
  have z1 := Try.sizeOf4
  have hS : Try.prog.underlying 79 = some (.struct (Try.prog.fieldsOf 79)) := by kernel_rfl
  have hp : Try.prog.stoodInHeld 79 = false := by kernel_rfl
  rw [run_eql_struct, show (10000 : Nat) = 9999 + 1 from rfl, run_equalIn_agg w 9999 79 _ _ hS hp]
  simp only [Program.fieldsOf, Try.underlying79]
  go_simp
theorem Rt.tg {w w' : World} {g h base : Nat} {n : Int} {v v' u : Value} {R : List AtC} (h1 : Rt w base h n u R) (ht : Tg g w w' v v') (hg : h ≠ g) (hgv : v.ownBlock ≠ some h) (hu : u.ownBlock ≠ some g) (huv : ∀ k, v.ownBlock = some k → u.ownBlock ≠ some k) : Rt w' base h n u R := by
  refine ⟨(ht.block h (Array.getElem?_eq_some_iff.1 h1.box).1 hg hgv).trans h1.box, ⟨h1.row.1, ?_⟩, h1.far, h1.ok⟩
  rcases h1.row.2 with h2 | ⟨b, cap, cur, rfl, hb', hh, r⟩
  · exact .inl h2
  · exact .inr ⟨b, cap, cur, rfl, hb', (ht.block b (Array.getElem?_eq_some_iff.1 hh).1 (fun e => hu (by rw [e]; rfl)) (fun e => huv b e rfl)).trans hh, r⟩
theorem Alk.got {L R : List AtC} (h : Alk L R) (hs : Srt L) {key : ByteArray} {r : Nat} (hp : posOk L key r) : getR L key r = (fndK key R).getD zAt ∧ thereB L key r = (fndK key R).isSome := by
  rw [h.get hs hp]
  unfold getR
  by_cases ht : thereB L key r = true
  · rw [if_pos ht, if_pos ht]; exact ⟨rfl, ht⟩
  · rw [if_neg ht, if_neg ht]; exact ⟨rfl, by simpa using ht⟩
def StepP (S : Nat → Prop) (g h : Nat) (L : List AtC) (w : World) (e : Ending) (w' : World) : Prop := e = .returned (.bool true) ∧ ∃ S' n' v' u' L' R', TP w' S' g h n' v' u' L' R' ∧ (∀ k, S' k → S k ∨ w.heap.size ≤ k) ∧ Fr S w w' ∧ L'.length ≤ L.length + 12
set_option maxRecDepth 100000 in
set_option maxHeartbeats 8000000 in
theorem step_any (S : Nat → Prop) (g h : Nat) (n : Int) (v u : Value) (L R : List AtC) (kind : Int) (A : Option Addr) (m c : Nat) (M : List OneC) (fr : Bool) (key to_ : ByteArray) (most : Int) (w : World) (hP : TP w S g h n v u L R) (hL : L.length ≤ 900) (hO : Ocs w w.heap.size A m M) (hm : m ≤ maxLen) (hmo : -9223372036854775808 ≤ most ∧ most ≤ 9223372036854775807) :
    Calls Try.prog 13 #[.pointer (some ⟨g, 0, none⟩), .pointer (some ⟨h, 0, none⟩), .agg #[.int .i64 kind, .slice A m c, .bool fr, .string key, .string to_, .int .i64 most]] w fun e w' => StepP S g h L w e w' := by
  obtain ⟨X, hX⟩ : ∃ X : Ending → World → Prop, (fun e w' => StepP S g h L w e w') = X := ⟨_, rfl⟩
  have HX : Hid (∀ S' n' v' u' L' R' w', TP w' S' g h n' v' u' L' R' → (∀ k, S' k → S k ∨ w.heap.size ≤ k) → Fr S w w' → L'.length ≤ L.length + 12 → X (.returned (.bool true)) w') := fun S' n' v' u' L' R' w' h1 h2 h3 h4 => by rw [← hX]; exact ⟨rfl, S', n', v', u', L', R', h1, h2, h3, h4⟩
  have HXB : Hid (∀ w', Below w.heap.size w w' → X (.returned (.bool true)) w') := fun w' hb => HX.out S n v u L R w' (hP.below hb) (fun k hk => .inl hk) (Fr.of_below hb) (by omega)
  rw [hX]
  clear hX
  have hlen := hP.len
  have HLD : Hid (∀ y0 W, (-9223372036854775808 ≤ y0 ∧ y0 ≤ 9223372036854775807) → Below w.heap.size w W → Calls Try.prog 46 #[.slice A m c, .int .i64 y0, .int .i64 12] W fun e w' => laidQ 12 W e w') := fun y0 W hy hW => laid_at y0 hy 12 (by omega) A m c M W ((hO.below hW).wider hW.size) hm
  have HP := Lib.hid hP
  clear hO hP
  have HLEN := Lib.hid hlen
  clear hlen
  go_enter Try.func13, Try.ntmps13
  go_upto_if 17 with fail
  go_cut [17] (fun s17 wx => ∃ ck, wx = w.alloc (.cells #[.int .i64 kind, .slice A m c, .bool fr, .string ck, .string to_, .int .i64 most] 32))
  case first =>
    rcases Nat.lt_or_ge 50 key.size with h1 | h1
    · have hd : decide (50 < (key.size : Int)) = true := by simp; omega
      go_wp2_with fail
      go_meet
      exact ⟨_, rfl⟩
    · have hd : decide (50 < (key.size : Int)) = false := by simp; omega
      go_wp2_with fail
      go_meet
      exact ⟨_, rfl⟩
  case rest =>
  obtain ⟨ck, rfl⟩ := hcut
  go_upto_if 25 with fail
  go_cut [25] (fun s25 wx => ∃ ct, wx = w.alloc (.cells #[.int .i64 kind, .slice A m c, .bool fr, .string ck, .string ct, .int .i64 most] 32))
  case first =>
    rcases Nat.lt_or_ge 50 to_.size with h1 | h1
    · have hd : decide (50 < (to_.size : Int)) = true := by simp; omega
      go_wp2_with fail
      go_meet
      exact ⟨_, rfl⟩
    · have hd : decide (50 < (to_.size : Int)) = false := by simp; omega
      go_wp2_with fail
      go_meet
      exact ⟨_, rfl⟩
  case rest =>
  obtain ⟨ct, rfl⟩ := hcut
  have hB5 : Below w.heap.size w (w.alloc (.cells #[.int .i64 kind, .slice A m c, .bool fr, .string ck, .string ct, .int .i64 most] 32)) := (Below.refl _ _).alloc (Nat.le_refl _) _
  have hN5 := heap_alloc_new w (.cells #[.int .i64 kind, .slice A m c, .bool fr, .string ck, .string ct, .int .i64 most] 32)
  obtain ⟨w5, hw5⟩ : ∃ w5, w.alloc (.cells #[.int .i64 kind, .slice A m c, .bool fr, .string ck, .string ct, .int .i64 most] 32) = w5 := ⟨_, rfl⟩
  rw [hw5] at hB5 hN5 ⊢
  have HB5 := Lib.hid hB5
  have HN5 := Lib.hid hN5
  have hl5 := (Array.getElem?_eq_some_iff.1 hN5).1
  have k0 : w5.cell? ⟨w.heap.size, 0, none⟩ = some (.int .i64 kind) := cell_of_row _ _ 0 _ _ _ hN5
  clear hw5 hB5 hN5
  by_cases h012 : kind = 0 ∨ kind = 1 ∨ kind = 2
  · have HP5 := Lib.hid (HP.out.below HB5.out)
    have k1 : w5.cell? ⟨w.heap.size, 1, none⟩ = some (.slice A m c) := cell_of_row _ _ 1 _ _ _ HN5.out
    have k2 : w5.cell? ⟨w.heap.size, 2, none⟩ = some (.bool fr) := cell_of_row _ _ 2 _ _ _ HN5.out
    have r0 : w5.cell? ⟨h, 0, none⟩ = some (.int .i64 n) := cell_of_row _ _ 0 _ _ _ HP5.out.r.box
    have hn0 := HP5.out.n0
    have hn1 := HP5.out.n1
    rcases h012 with rfl | rfl | rfl
    all_goals
      go_upto_if 37 with fail
      go_cut [7] (fun s7 wx => ∃ y0 : Int, s7 = .int .i64 y0 ∧ (-9223372036854775808 ≤ y0 ∧ y0 ≤ 9223372036854775807) ∧ wx = w5)
      case first =>
        cases fr with
        | true =>
          go_wp2_with fail
          go_meet
          exact ⟨n, rfl, by omega, rfl⟩
        | false =>
          go_wp2_with fail
          go_meet
          exact ⟨0, rfl, by omega, rfl⟩
      case rest =>
        obtain ⟨y0, rfl, hy0, hwc⟩ := hcut
        have hwc' := hwc.symm
        subst hwc'
        clear r0 k0 k2
        go_upto_region 13 with (go_at_call 46; (with_reducible refine (HLD.out y0 w5 hy0 HB5.out).mono ?_); rintro e w6 ⟨v1, u1, L1, rfl, hl12, hla⟩)
        obtain ⟨A1, c1, rfl, hc1, hcm1, hP1⟩ := Acs.of_row hla.p rfl hla.ok
        obtain ⟨A2, c2, rfl, _, _, hQ1⟩ := Acs.of_row hla.q rfl hla.ok
        have HP6 := Lib.hid (HP5.out.below hla.bel)
        have HB6 := Lib.hid (HB5.out.trans (hla.bel.mono HB5.out.size))
        have HF1 : Hid (∀ p, A1 = some p → w5.heap.size ≤ p.block) := fun p hp => (World.ownsRow.lt hla.p p.block (by rw [hp]; rfl)).1
        have HF2 : Hid (∀ p, A2 = some p → w5.heap.size ≤ p.block) := fun p hp => (World.ownsRow.lt hla.q p.block (by rw [hp]; rfl)).1
        have HS5 : Hid (∀ k, S k → k < w5.heap.size) := HP5.out.lt
        have H1 := Lib.hid hP1
        have H2 := Lib.hid hQ1
        have HR9 := HLEN.out
        clear hla hP1 hQ1 HLD HLEN
        have HAP := Lib.hid (Apply_tg 0 g L1.length c1 n v L L1 A1 w6 HP6.out.t (Nat.zero_le _) H1.out (fun p hp => ⟨fun e => by have := HF1.out p hp; have := HS5.out g HP6.out.sg; omega, fun e => by have := HF1.out p hp; have := HS5.out _ (HP6.out.sv _ e); omega⟩) (by omega) (by omega))
        have HRP : Hid (∀ w7 v7, Tg g w6 w7 v v7 → Calls Try.prog 48 #[.pointer (some ⟨h, 0, none⟩), .slice A2 L1.length c2] w7 fun e w' => ∃ v', e = .returned (.int .i64 (appE n L1)) ∧ Rt w' 0 h (appN n L1) v' (if okA n L1 = true then rAll L1 R else R) ∧ Trv h w7 w' u v') := fun w7 v7 ht => rapply_any 0 h L1.length c2 n u R L1 A2 w7 (HP6.out.r.tg ht (fun e => HP6.out.gh e.symm) HP6.out.vh HP6.out.ug HP6.out.vu) (Nat.zero_le _) (H2.out.tg ht (fun p hp => ⟨fun e => by have := HF2.out p hp; have := HS5.out g HP6.out.sg; omega, fun e => by have := HF2.out p hp; have := HS5.out _ (HP6.out.sv _ e); omega⟩)) (fun p hp e => by have := HF2.out p hp; have := HS5.out h HP6.out.sh; omega) (by omega) (by omega)
        go_wp2_with (first
          | (go_at_call 47; (with_reducible refine HAP.out.mono ?_); rintro e w7 ⟨v7, rfl, ht7, htg7⟩)
          | (go_at_call 48; (with_reducible refine (HRP.out w7 v7 htg7).mono ?_); rintro e w8 ⟨u8, rfl, hr8, htr8⟩))
        have hfin := HP6.out.applied ht7 htg7 hr8 htr8
        refine HX.out _ _ _ _ _ _ _ hfin.1 (fun k hk => ?_) (((Fr.of_below HB6.out).trans hfin.2 (fun k _ hk => hk))) (by have := appT_len n L1 L; omega)
        rcases hk with hk | ⟨hk, _⟩
        · exact .inl hk
        · exact .inr (Nat.le_trans HB6.out.size hk)
  · have e0 : (kind == 0) = false := by rw [beq_eq_false_iff_ne]; omega
    have e1 : (kind == 1) = false := by rw [beq_eq_false_iff_ne]; omega
    have e2 : (kind == 2) = false := by rw [beq_eq_false_iff_ne]; omega
    clear h012 HLD
    by_cases h3 : kind = 3
    · subst h3
      obtain ⟨fo, hfo⟩ : ∃ fo, fndK ck R = fo := ⟨_, rfl⟩
      have HGT : Hid (∀ W, Below w.heap.size w W → Calls Try.prog 49 #[.pointer (some ⟨g, 0, none⟩), .string ck] W fun e w' => e = .returned (.tuple #[.agg (fo.getD zAt).cells.toArray, .bool fo.isSome]) ∧ Below W.heap.size W w') := fun W hW => (get9_any 0 g n v L ck W (HP.out.t.below hW) (by omega)).mono fun e w' ⟨r, hp, he, hb⟩ => ⟨by have := HP.out.alk.got HP.out.srt hp; rw [he, this.1, this.2, hfo], hb⟩
      have HRG : Hid (∀ W, Below w.heap.size w W → Calls Try.prog 50 #[.pointer (some ⟨h, 0, none⟩), .string ck] W fun e w' => e = .returned (.tuple #[.agg (fo.getD zAt).cells.toArray, .bool fo.isSome]) ∧ Below W.heap.size W w') := fun W hW => by
        have := rget_any 0 h n u R ck W (HP.out.r.below hW) (by have := HLEN.out; omega)
        rw [hfo] at this
        exact this
      clear hfo
      generalize fo.getD zAt = a at *
      generalize fo.isSome = b at *
      obtain ⟨off, xk, xv, xg, xt⟩ := a
      simp only [AtC.cells] at HGT HRG
      have k3 : w5.cell? ⟨w.heap.size, 3, none⟩ = some (.string ck) := cell_of_row _ _ 3 _ _ _ HN5.out
      go_upto_region 16 with (go_at_call 49; (with_reducible refine (HGT.out w5 HB5.out).mono ?_); rintro e w6 ⟨rfl, hb6⟩)
      have hB7 := (Below.refl w6.heap.size w6).alloc (Nat.le_refl _) (.cells #[.int .i64 off, .string xk, .string xv, .bool xg, .int .i64 xt] 81)
      have hN7 := heap_alloc_new w6 (.cells #[.int .i64 off, .string xk, .string xv, .bool xg, .int .i64 xt] 81)
      obtain ⟨w7, hw7⟩ : ∃ w7, w6.alloc (.cells #[.int .i64 off, .string xk, .string xv, .bool xg, .int .i64 xt] 81) = w7 := ⟨_, rfl⟩
      rw [hw7] at hB7 hN7 ⊢
      have hl7 := (Array.getElem?_eq_some_iff.1 hN7).1
      have HB7 : Hid (Below w.heap.size w w7) := (HB5.out.trans (hb6.mono HB5.out.size)).trans (hB7.mono (Nat.le_trans HB5.out.size hb6.size))
      have hK7 := (hB7.block w.heap.size (Nat.lt_of_lt_of_le hl5 hb6.size)).trans ((hb6.block _ hl5).trans HN5.out)
      have HN7 := Lib.hid hN7
      clear k0 k3 hw7 hB7 hb6 hN7
      have k3 : w7.cell? ⟨w.heap.size, 3, none⟩ = some (.string ck) := cell_of_row _ _ 3 _ _ _ hK7
      clear hK7
      go_upto_region 17 with (go_at_call 50; (with_reducible refine (HRG.out w7 HB7.out).mono ?_); rintro e w8 ⟨rfl, hb8⟩)
      have hB9 := (Below.refl w8.heap.size w8).alloc (Nat.le_refl _) (.cells #[.int .i64 off, .string xk, .string xv, .bool xg, .int .i64 xt] 90)
      have hN9 := heap_alloc_new w8 (.cells #[.int .i64 off, .string xk, .string xv, .bool xg, .int .i64 xt] 90)
      obtain ⟨w9, hw9⟩ : ∃ w9, w8.alloc (.cells #[.int .i64 off, .string xk, .string xv, .bool xg, .int .i64 xt] 90) = w9 := ⟨_, rfl⟩
      rw [hw9] at hB9 hN9 ⊢
      have hK9 := (hB9.block w6.heap.size (Nat.lt_of_lt_of_le hl7 hb8.size)).trans ((hb8.block _ hl7).trans HN7.out)
      have HE := Lib.hid (HXB.out w9 ((HB7.out.trans (hb8.mono HB7.out.size)).trans (hB9.mono (Nat.le_trans HB7.out.size hb8.size))))
      clear k3 hw9 hB9 hb8
      have a0 := cell_of_row _ _ 0 _ _ _ hK9
      have a1 := cell_of_row _ _ 1 _ _ _ hK9
      have a2 := cell_of_row _ _ 2 _ _ _ hK9
      have a3 := cell_of_row _ _ 3 _ _ _ hK9
      have a4 := cell_of_row _ _ 4 _ _ _ hK9
      have b0 := cell_of_row _ _ 0 _ _ _ hN9
      have b1 := cell_of_row _ _ 1 _ _ _ hN9
      have b2 := cell_of_row _ _ 2 _ _ _ hN9
      have b3 := cell_of_row _ _ 3 _ _ _ hN9
      have b4 := cell_of_row _ _ 4 _ _ _ hN9
      have hne := fun w => eqlRec9 xk xv xg xt w
      clear hK9 hN9
      go_wp2_with fail
      exact HE.out
    · have e3 : (kind == 3) = false := by rw [beq_eq_false_iff_ne]; omega
      by_cases h4 : kind = 4
      · subst h4
        have HRN : Hid (∀ W, Below w.heap.size w W → Calls Try.prog 51 #[.pointer (some ⟨g, 0, none⟩), .string ck, .string ct, .int .i64 most] W fun e w' => ∃ v', e = .returned v' ∧ w'.ownsRow W.heap.size 81 5 v' ((rngL ck ct L).take most.toNat).length (ccells ((rngL ck ct L).take most.toNat)) ∧ Below W.heap.size W w') := fun W hW => range9_any 0 g n v L ck ct most W (HP.out.t.below hW) (by omega) hmo
        have HRR : Hid (∀ W, Below w.heap.size w W → Calls Try.prog 52 #[.pointer (some ⟨h, 0, none⟩), .string ck, .string ct, .int .i64 most] W fun e w' => ∃ v', e = .returned v' ∧ w'.ownsRow W.heap.size 90 5 v' ((rngL ck ct L).take most.toNat).length (ccells ((rngL ck ct L).take most.toNat)) ∧ Below W.heap.size W w') := fun W hW => rrange_any 0 h n u L R ck ct most W (HP.out.r.below hW) HP.out.alk HP.out.srt (by have := HLEN.out; omega) (by omega)
        have HOK : Hid (∀ r ∈ (rngL ck ct L).take most.toNat, r.ok) := fun r hr => HP.out.t.ok r (List.mem_filter.1 (List.mem_of_mem_take hr)).1
        have HFL : Hid (((rngL ck ct L).take most.toNat).length ≤ 1000000) := by
          show _ ≤ _
          have h1 := List.length_take_le most.toNat (rngL ck ct L)
          have h2 := List.length_take_le' most.toNat (rngL ck ct L)
          have h3 := rng_len ck ct L
          omega
        generalize (rngL ck ct L).take most.toNat = F at *
        have HAK : Hid (∀ A A' c c' W, Acs W W.heap.size A F.length F → Acs W W.heap.size A' F.length F → Calls Try.prog 40 #[.slice A F.length c, .slice A' F.length c'] W fun e w' => e = .returned (.bool true) ∧ Below W.heap.size W w') := fun A A' c c' W h1 h2 => alike_any A A' F.length c c' F W h1 h2 HFL.out
        generalize hm : F.length = mF at *
        have HM := Lib.hid hm
        clear hm
        have k3 : w5.cell? ⟨w.heap.size, 3, none⟩ = some (.string ck) := cell_of_row _ _ 3 _ _ _ HN5.out
        have k4 : w5.cell? ⟨w.heap.size, 4, none⟩ = some (.string ct) := cell_of_row _ _ 4 _ _ _ HN5.out
        have k5 : w5.cell? ⟨w.heap.size, 5, none⟩ = some (.int .i64 most) := cell_of_row _ _ 5 _ _ _ HN5.out
        go_upto_region 19 with fail
        clear k0
        have hQ5 := HB5.out.drew
        go_region_held3 (fun w' => w'.cell? ⟨w.heap.size, 3, none⟩ = some (.string ck) ∧ w'.cell? ⟨w.heap.size, 4, none⟩ = some (.string ct) ∧ w'.cell? ⟨w.heap.size, 5, none⟩ = some (.int .i64 most)) (first | exact ⟨k3, k4, k5⟩ | exact ⟨m3, m4, m5⟩ | exact ⟨q3, q4, q5⟩ | exact ⟨s3, s4, s5⟩ | go_keep)
          (first
            | (go_at_call 51; refine (HRN.out _ hQ5).mono ?_; rintro e w1 ⟨v1, rfl, hv1, hb1⟩; obtain ⟨A1, c1', rfl, _, _, hA1⟩ := Acs.of_row hv1 HM.out HOK.out; have hR1 : Below w5.heap.size w5 w1 := ((Below.refl _ _).drew).trans (hb1.mono (by simp)); have hQ1 : Below w.heap.size w w1 := hQ5.trans (hb1.mono hQ5.size); have m3 := (hR1.cell (p := ⟨w.heap.size, 3, none⟩) hl5).trans k3; have m4 := (hR1.cell (p := ⟨w.heap.size, 4, none⟩) hl5).trans k4; have m5 := (hR1.cell (p := ⟨w.heap.size, 5, none⟩) hl5).trans k5)
            | (go_at_call 52; refine (HRR.out _ hQ1).mono ?_; rintro e w2 ⟨v2, rfl, hv2, hb2⟩; obtain ⟨A2, c2', rfl, _, _, hA2⟩ := Acs.of_row hv2 HM.out HOK.out; have hA1' := (hA1.below hb2).wider hb2.size; have hR2 : Below w5.heap.size w5 w2 := hR1.trans (hb2.mono hR1.size); have hQ2 : Below w.heap.size w w2 := hQ1.trans (hb2.mono hQ1.size); have q3 := (hR2.cell (p := ⟨w.heap.size, 3, none⟩) hl5).trans k3; have q4 := (hR2.cell (p := ⟨w.heap.size, 4, none⟩) hl5).trans k4; have q5 := (hR2.cell (p := ⟨w.heap.size, 5, none⟩) hl5).trans k5)
            | (go_at_call 40; refine (HAK.out _ _ _ _ _ hA1' hA2).mono ?_; rintro e w3 ⟨rfl, hb3⟩; have hQ3 : Below w.heap.size w w3 := hQ2.trans (hb3.mono hQ2.size); have hR3 : Below w5.heap.size w5 w3 := hR2.trans (hb3.mono hR2.size); have s3 := (hR3.cell (p := ⟨w.heap.size, 3, none⟩) hl5).trans k3; have s4 := (hR3.cell (p := ⟨w.heap.size, 4, none⟩) hl5).trans k4; have s5 := (hR3.cell (p := ⟨w.heap.size, 5, none⟩) hl5).trans k5))
        all_goals
          have HE := Lib.hid (HXB.out w3 hQ3)
          go_wp2_with fail
          exact HE.out
      · have e4 : (kind == 4) = false := by rw [beq_eq_false_iff_ne]; omega
        have HE := Lib.hid (HXB.out w5 HB5.out)
        clear h3 h4
        go_wp2_with fail
        exact HE.out
end Go.Proofs.Ytmlekkbjmfknfaa
