/-
  DiskKeeps: a file behind a crash is a beginning of what it was, and has at least what was kept.
-/
import Derived.Test.YtebkgcnldbkgeaaDpU
import Derived.Test.YtebkgcnldbkgeaaIdxN
namespace Go.Proofs.Ytebkgcnldbkgeaa
open Go.RowKit Go.Lib Go.Sort Go.Maps
set_option linter.unusedVariables false
set_option linter.unusedSimpArgs false

theorem crashF_mem (P : List Int) (F : List Fl) : ∀ (n i : Nat), i < n → crash1 P i (F.getD i default) ∈ crashF P F n
  | 0, i, h => by omega
  | n + 1, i, h => by
    unfold crashF
    by_cases e : i < n
    · exact List.mem_append_left _ (crashF_mem P F n i e)
    · obtain rfl : i = n := by omega
      exact List.mem_append_right _ (List.mem_singleton.2 rfl)
section
variable {W : World} {base d : Nat} {D : Dsk}
theorem at_of_mem (h : Dk W base d D) {f : Fl} (hf : f ∈ (pd D).F) : ∃ g, D.at_ f.name = some g ∧ g.f = f := by
  have h1 := getT_of_mem Fl.key h.ok.rise hf
  have h2 := get_files D f.key
  have h3 : getT Fl.key (filesD D) f.key = some f := h1
  rw [h3] at h2
  cases hg : getT Hd.key D.H f.key with
  | none => rw [hg] at h2; cases h2
  | some g =>
    rw [hg] at h2
    injection h2 with h2
    exact ⟨g, hg, h2.symm⟩
theorem readF_any (h : Dk W base d D) {f : Fl} (hf : f ∈ (pd D).F) :
    Calls Try.prog 12 #[.pointer (some ⟨d, 0, none⟩), .string f.name] W fun e w' => ∃ A c, e = .returned (.tuple #[.slice A (bst f.b).size c, .int .i64 0]) ∧ (bst f.b).size ≤ c ∧ c ≤ maxLen ∧ Own w' W.heap.size (.slice A (bst f.b).size c) f.b ∧ Below W.heap.size W w' := by
  obtain ⟨g, hg, hgf⟩ := at_of_mem h hf
  have hsz : f.b.length = (bst f.b).size := (bst_size f.b).symm
  refine (read_any4 base d D f.name W h (by have := h.ok.name f hf; unfold maxLen; omega)).mono fun e w' hh => ?_
  obtain ⟨h1, h2⟩ := hh
  rw [hg] at h1
  obtain ⟨v', he, ho⟩ := h1
  have hb : g.b = f.b := by rw [← hgf]; rfl
  rw [hb] at ho
  obtain ⟨Ab, cb, hv, h3, h4⟩ := slice_of_row ho
  rw [hsz] at hv h3
  subst hv
  exact ⟨Ab, cb, he, h3, h4, ho, h2⟩
theorem keptF_any (h : Dk W base d D) {f : Fl} (hf : f ∈ (pd D).F) :
    Calls Try.prog 13 #[.pointer (some ⟨d, 0, none⟩), .string f.name] W fun e w' => e = .returned (.int .i64 (f.kept : Int)) ∧ w' = W := by
  obtain ⟨g, hg, hgf⟩ := at_of_mem h hf
  have h1 := kept_any4 base d D f.name W h (by have := h.ok.name f hf; unfold maxLen; omega)
  rw [hg] at h1
  have hk : g.kept = f.kept := by rw [← hgf]; rfl
  have h2 : keptO (some g) = f.kept := hk
  rw [h2] at h1
  exact h1
/-- the beginning of bytes, as a text -/
theorem Own.cv {v : List UInt8} {B n c N : Nat} {A : Option Addr} (ho : Own W B (.slice A n c) v) (hn : v.length = n) (hN : N ≤ n) : (convert 33 9 (.slice A N c)).run Try.prog W = .ok (.string (bst (v.take N))) W := by
  have ho' := ho
  unfold Own at ho'
  rw [hn] at ho'
  have b7 : Bs W W.heap.size A n v := ⟨hn, Lies.of_row ho'⟩
  exact (b7.take N hN).str (P := Try.prog) (src := 33) (dst := 9) (e := 5) Try.underlying33 Try.underlying5 Try.underlying9 c
end
theorem mem_sync {F : List Fl} {f : Fl} (hf : f ∈ F) : keptF f ∈ syncF (allN F) F := by
  unfold syncF
  refine List.mem_map.2 ⟨f, hf, ?_⟩
  rw [if_pos]
  · rfl
  · unfold inN allN
    rw [List.any_eq_true]
    exact ⟨f.name, List.mem_map.2 ⟨f, hf, rfl⟩, by simp⟩
theorem getD_sync {F : List Fl} {i : Nat} (hi : i < F.length) : (syncF (allN F) F).getD i default = keptF (F.getD i default) := by
  unfold syncF
  rw [List.getD_eq_getElem?_getD, List.getElem?_map, List.getD_eq_getElem?_getD, List.getElem?_eq_getElem hi]
  show (if _ then _ else _) = _
  rw [if_pos]
  · rfl
  · unfold inN allN
    rw [List.any_eq_true]
    exact ⟨F[i].name, List.mem_map.2 ⟨F[i], List.getElem_mem hi, rfl⟩, by simp⟩
set_option maxRecDepth 100000 in
set_option maxHeartbeats 16000000 in
theorem diskKeeps_any (room : Int) (A : Option Addr) (n c : Nat) (X : List O4) (A2 : Option Addr) (n2 c2 : Nat) (P : List Int) (w : World) (hX : Ops4 w w.heap.size A n X) (hn : n ≤ maxLen) (hP : Ins w w.heap.size A2 n2 P) (hn2 : n2 ≤ c2) (hc2 : c2 ≤ maxLen) :
    Calls Try.prog 4 #[.int .i64 room, .slice A n c, .slice A2 n2 c2] w fun e w' => e = .returned (.bool true) ∧ Below w.heap.size w w' := by
  have HP : Hid (Calls Try.prog 7 #[.int .i64 room, .slice A n c, .int .i64 40] w fun e w' => ∃ d r D v p, e = .returned (.tuple #[.pointer (some ⟨d, 0, none⟩), .pointer (some ⟨r, 0, none⟩), .bool true]) ∧ TD w' w.heap.size d r D v p ∧ Below w.heap.size w w') := play_any room A n c 40 X w hX hn (by decide)
  have HIN : Hid (Isd w w.heap.size A2 n2 P) := ⟨hP.len, hP.row⟩
  have HC2 := Lib.hid hc2
  unfold maxLen at hc2
  clear hX hP hn
  go_enter Try.func4, Try.ntmps4
  go_upto_if 35 with (go_at_call 7; (with_reducible refine HP.out.mono ?_); rintro e w1 ⟨d, r, D, v, p, rfl, ht1, hb1⟩)
  have HDK := Lib.hid ht1.dk
  have HPE := Lib.hid ht1.pe
  have HB1 := Lib.hid hb1
  clear ht1 hb1 HP
  go_cut [2, 36, 37] (fun s2 s36 s37 wx => ∃ m : Nat, s2 = .slice A2 m c2 ∧ wx = w1 ∧ Hid (m ≤ n2))
  case first =>
    by_cases h20 : 20 < n2
    · have d0 : decide ((20 : Int) < (n2 : Int)) = true := by rw [decide_eq_true_iff]; omega
      have d0' : decide (20 < n2) = true := decide_eq_true h20
      have hc20 : (20 : Int) ≤ (c2 : Int) := by omega
      go_wp2_with fail
      go_meet
      exact ⟨20, rfl, rfl, by rw [Hid]; omega⟩
    · have d0 : decide ((20 : Int) < (n2 : Int)) = false := by rw [decide_eq_false_iff_not]; omega
      have d0' : decide (20 < n2) = false := decide_eq_false h20
      go_wp2_with fail
      go_meet
      exact ⟨n2, rfl, rfl, Nat.le_refl _⟩
  case rest =>
    obtain ⟨m, rfl, hwe, HM⟩ := hcut
    have hwe' := hwe.symm
    subst hwe'
    have HIS : Hid (Isd w1 w1.heap.size A2 m (P.take m)) := by
      have h1 := (HIN.out.below HB1.out).wider HB1.out.size
      have h2 := h1.take m
      rw [Nat.min_eq_right HM.out] at h2
      exact h2
    have HCR : Hid (Calls Try.prog 9 #[.pointer (some ⟨d, 0, none⟩), .slice A2 m c2] w1 fun e w' => ∃ (cb : Nat) (Dc : Dsk), e = .returned (.pointer (some ⟨cb, 0, none⟩)) ∧ Dk w' w1.heap.size cb Dc ∧ pd Dc = p.crash (P.take m) ∧ Below w1.heap.size w1 w') := by
      have h1 := crash_pd w.heap.size d D A2 m c2 (P.take m) w1 HDK.out HIS.out (Nat.le_trans HM.out (Nat.le_trans hn2 HC2.out))
      rw [HPE.out] at h1
      exact h1
    have HNM : Hid (∀ W, Below w1.heap.size w1 W → Calls Try.prog 10 #[.pointer (some ⟨d, 0, none⟩), .string ⟨#[]⟩] W fun e w' => ∃ A c, e = .returned (.slice A p.F.length c) ∧ p.F.length ≤ c ∧ c ≤ maxLen ∧ Nms w' (D.foot d) A p.F.length (allN p.F) ∧ Below W.heap.size W w') := fun W hW => by
      have hd := HDK.out.below hW (Nat.le_refl _)
      have hl : (namesD D ⟨#[]⟩).length = p.F.length := by rw [names_files, List.length_map, ← HPE.out]; unfold allN; rw [List.length_map]; rfl
      refine (names_new w.heap.size d D ⟨#[]⟩ W hd).mono fun e w' ⟨An, cn, h1, h2, h3, h4, h5, h6⟩ => ?_
      rw [hl] at h1 h2
      have h7 := nms_all (nb := 0) (w0 := W) (hd.below h5 (Nat.le_refl _)) h4 h6 hd.lt
      have e1 : allN (filesD D) = allN p.F := by rw [← HPE.out]; rfl
      have e2 : (allN p.F).length = p.F.length := by unfold allN; rw [List.length_map]
      rw [e1, e2] at h7
      exact ⟨An, cn, h1, h2, h3, h7, h5⟩
    clear HIN HIS HC2 hc2 hn2
    go_upto_region 8 with (first
      | (go_at_call 10; (with_reducible refine (HNM.out _ hb2).mono ?_); rintro e w3 ⟨An, cn, rfl, hcn1, hcn2, hnm3, hb3⟩)
      | (go_at_call 9; (with_reducible refine HCR.out.mono ?_); rintro e w2 ⟨cb, Dc, rfl, hdc, hqc, hb2⟩))
    have HB13 : Hid (Below w1.heap.size w1 w3) := hb2.trans (hb3.mono hb2.size)
    have HDC := Lib.hid (hdc.below hb3 (Nat.le_refl _))
    have HQC := Lib.hid hqc
    have HN3 := Lib.hid hnm3
    have HD3 := Lib.hid (HDK.out.below HB13.out (Nat.le_refl _))
    have hlen : p.F.length ≤ 128 := by have := HDK.out.ok.len; rw [HPE.out] at this; exact this
    have HNC : Hid (∀ W, Below w3.heap.size w3 W → Calls Try.prog 10 #[.pointer (some ⟨cb, 0, none⟩), .string ⟨#[]⟩] W fun e w' => ∃ A c, e = .returned (.slice A p.F.length c) ∧ Below W.heap.size W w') := fun W hW => by
      have hl : (namesD Dc ⟨#[]⟩).length = p.F.length := by
        have e1 : (filesD Dc) = (p.crash (P.take m)).F := by rw [← HQC.out]; rfl
        rw [names_files, List.length_map, e1]
        unfold allN PD.crash
        rw [List.length_map, crashF_len]
      refine (names_any w1.heap.size cb Dc ⟨#[]⟩ W (HDC.out.below hW (Nat.le_refl _))).mono fun e w' ⟨An, cn, h1, h2, h3, h4, h5⟩ => ?_
      rw [hl] at h1
      exact ⟨An, cn, h1, h5⟩
    have HGC : Hid (∀ W, Below w3.heap.size w3 W → Calls Try.prog 11 #[.pointer (some ⟨cb, 0, none⟩)] W fun e w' => e = .returned (.bool false) ∧ Below W.heap.size W w') := fun W hW => by
      have h1 := gone_any w1.heap.size cb Dc W (HDC.out.below hW (Nat.le_refl _))
      have h2 : burntB Dc = false := by have : (pd Dc).burnt = false := by rw [HQC.out]; rfl
                                        exact this
      rw [h2] at h1
      exact h1
    clear hb2 hb3 hdc hqc hnm3 HCR HNM
    obtain ⟨nf, hnf⟩ : ∃ nf, p.F.length = nf := ⟨_, rfl⟩
    have HNF := Lib.hid hnf
    rw [hnf] at HN3 HNC hcn1 hlen ⊢
    clear hnf
    go_wp2_with (first
      | (go_at_call 11; (with_reducible refine (HGC.out _ hb4).mono ?_); rintro e w5 ⟨rfl, hb5⟩)
      | (go_at_call 10; (with_reducible refine (HNC.out _ (Below.refl _ _)).mono ?_); rintro e w4 ⟨A4, c4, rfl, hb4⟩))
    have HB5 : Hid (Below w3.heap.size w3 w5) := hb4.trans (hb5.mono hb4.size)
    clear hb4 hb5 HNC HGC
    -- each file
    have HFI : Hid (∀ i, i < nf → p.F.getD i default ∈ (pd D).F ∧ crash1 (P.take m) i (p.F.getD i default) ∈ (pd Dc).F ∧ (p.F.getD i default).kept ≤ (p.F.getD i default).b.length ∧ (p.F.getD i default).b.length ≤ 4194304) := fun i hi => by
      have hm : p.F.getD i default ∈ p.F := mem_getD (by rw [HNF.out]; exact hi)
      have hok := HDK.out.ok
      rw [HPE.out] at hok
      refine ⟨by rw [HPE.out]; exact hm, ?_, hok.kept _ hm, Nat.le_trans (len_le_sum hm) hok.tot⟩
      rw [HQC.out]
      show _ ∈ crashF _ _ _
      exact crashF_mem _ _ _ _ (by rw [HNF.out]; exact hi)
    have HNA : Hid (∀ i, i < nf → (allN p.F).getD i ⟨#[]⟩ = (p.F.getD i default).name) := fun i hi => by
      have hi2 : i < p.F.length := by rw [HNF.out]; exact hi
      show (allN p.F).getD i ⟨#[]⟩ = (p.F.getD i default).name
      unfold allN
      rw [List.getD_eq_getElem?_getD, List.getElem?_map, List.getElem?_eq_getElem hi2, List.getD_eq_getElem?_getD, List.getElem?_eq_getElem hi2]
      rfl
    go_loopw [59] (fun iv wr => ∃ i : Nat, i ≤ nf ∧ iv = .int .i64 i ∧ Hid (Below w3.heap.size w3 wr)) (fun iv _ => nf - (RowKit.intOf iv).toNat)
    case atStart => exact ⟨0, by omega, rfl, HB5.out⟩
    case round =>
      obtain ⟨i, hi, rfl, HB⟩ := hrel
      by_cases hit : i < nf
      · have hiz : (i : Int) < (nf : Int) := by omega
        obtain ⟨qn, hqn, hqb, _, hqc, _⟩ := HN3.out.row i hit
        rw [HNA.out i hit] at hqc
        subst hqn
        have y1 : wr.cell? (qn.add i) = some (.string (p.F.getD i default).name) := (HB.out.cell (by rw [add_block]; exact hqb)).trans hqc
        obtain ⟨hf1, hf2, hkb, hbl⟩ := HFI.out i hit
        generalize p.F.getD i default = f at *
        obtain ⟨N, hNe⟩ : ∃ N, lastN4 f.kept f.b.length (pickAt (P.take m) i) = N := ⟨_, rfl⟩
        have hNN : f.kept ≤ N ∧ N ≤ f.b.length := by rw [← hNe]; exact lastN4_le hkb _
        have hcr : crash1 (P.take m) i f = ⟨f.name, f.b.take N, N⟩ := by unfold crash1; rw [hNe]
        rw [hcr] at hf2
        have HRD : Hid (∀ W, Below w3.heap.size w3 W → Calls Try.prog 12 #[.pointer (some ⟨d, 0, none⟩), .string f.name] W fun e w' => ∃ A c, e = .returned (.tuple #[.slice A (bst f.b).size c, .int .i64 0]) ∧ (bst f.b).size ≤ c ∧ c ≤ maxLen ∧ Own w' W.heap.size (.slice A (bst f.b).size c) f.b ∧ Below W.heap.size W w') := fun W hW => readF_any (HD3.out.below hW (Nat.le_refl _)) hf1
        have hN2 : (bst (f.b.take N)).size = N := by rw [bst_size, List.length_take]; omega
        have HRC : Hid (∀ W, Below w3.heap.size w3 W → Calls Try.prog 12 #[.pointer (some ⟨cb, 0, none⟩), .string f.name] W fun e w' => ∃ A c, e = .returned (.tuple #[.slice A N c, .int .i64 0]) ∧ Own w' W.heap.size (.slice A N c) (f.b.take N) ∧ Below W.heap.size W w') := fun W hW => (readF_any (f := ⟨f.name, f.b.take N, N⟩) (HDC.out.below hW (Nat.le_refl _)) hf2).mono fun e w' ⟨A, c, h1, _, _, h2, h3⟩ => by
          rw [show (bst (Fl.mk f.name (f.b.take N) N).b).size = N from hN2] at h1 h2
          exact ⟨A, c, h1, h2, h3⟩
        have HKD : Hid (∀ W, Below w3.heap.size w3 W → Calls Try.prog 13 #[.pointer (some ⟨d, 0, none⟩), .string f.name] W fun e w' => e = .returned (.int .i64 (f.kept : Int)) ∧ w' = W) := fun W hW => keptF_any (HD3.out.below hW (Nat.le_refl _)) hf1
        have HKC : Hid (∀ W, Below w3.heap.size w3 W → Calls Try.prog 13 #[.pointer (some ⟨cb, 0, none⟩), .string f.name] W fun e w' => e = .returned (.int .i64 (N : Int)) ∧ w' = W) := fun W hW => keptF_any (f := ⟨f.name, f.b.take N, N⟩) (HDC.out.below hW (Nat.le_refl _)) hf2
        have hsz : f.b.length = (bst f.b).size := (bst_size f.b).symm
        have HLF := Lib.hid hsz
        rw [hsz] at hNN hbl
        obtain ⟨bl, hbl2⟩ : ∃ bl, (bst f.b).size = bl := ⟨_, rfl⟩
        rw [hbl2] at HRD hNN hbl HLF
        have HTL : Hid ((f.b.take N).length = N) := by show _ = _; rw [List.length_take]; have := HLF.out; omega
        generalize f.name = fn at *
        generalize f.kept = kf at *
        generalize f.b = fl at *
        obtain ⟨bf, hbf⟩ : ∃ bf, bst (fl.take N) = bf := ⟨_, rfl⟩
        have HBF := Lib.hid hbf
        clear hf1 hf2 hqb hqc hkb hNe hcr hN2 hsz hbl2 hbf
        go_upto_region 15 with (first
          | (go_at_call 12; (with_reducible refine (HRC.out _ hb38).mono ?_); rintro e w9 ⟨Ab, cb', rfl, ho9, hb9⟩)
          | (go_at_call 12; (with_reducible refine (HRD.out _ HB.out).mono ?_); rintro e w8 ⟨Aa, ca, rfl, hca1, hca2, ho8, hb8⟩; have hb38 := HB.out.trans (hb8.mono HB.out.size)))
        generalize cb' = cbb at *
        have HB39 : Hid (Below w3.heap.size w3 w9) := hb38.trans (hb9.mono hb38.size)
        have HO8 := Lib.hid (ho8.below hb9 (Nat.le_refl _))
        have HO9 := Lib.hid ho9
        have HS2 : Hid (∀ W, Below w9.heap.size w9 W → (convert 33 9 (.slice Aa N ca)).run Try.prog W = .ok (.string bf) W ∧ (convert 33 9 (.slice Ab N cbb)).run Try.prog W = .ok (.string bf) W) := fun W hW => by
          have h1 := Own.cv (HO8.out.below hW (Nat.le_refl _)) HLF.out hNN.2
          have h2 := Own.cv (HO9.out.below hW (Nat.le_refl _)) HTL.out (Nat.le_refl N)
          rw [List.take_take, Nat.min_self] at h2
          rw [HBF.out] at h1 h2
          exact ⟨h1, h2⟩
        have HKD := Lib.hid (fun W hW => HKD.out W (HB39.out.trans (Below.mono hW HB39.out.size)))
        have HKC := Lib.hid (fun W hW => HKC.out W (HB39.out.trans (Below.mono hW HB39.out.size)))
        have hNc : (N : Int) ≤ (ca : Int) := by omega
        have hN0 : (0 : Int) ≤ (N : Int) := by omega
        have hNb : ¬ ((bl : Int) < (N : Int)) := by omega
        have dNb : decide ((bl : Int) < (N : Int)) = false := decide_eq_false hNb
        have dNb' : decide (bl < N) = false := by rw [decide_eq_false_iff_not]; omega
        have dkN : decide ((N : Int) < (kf : Int)) = false := by rw [decide_eq_false_iff_not]; omega
        have dkN' : decide (N < kf) = false := by rw [decide_eq_false_iff_not]; omega
        clear ho8 ho9 hb8 hb9 hb38 y1 HRD HRC
        refine wp_region_held_drew (S := fun w' => (convert 33 9 (.slice Aa N ca)).run Try.prog w' = .ok (.string bf) w' ∧ (convert 33 9 (.slice Ab N cbb)).run Try.prog w' = .ok (.string bf) w') (by kernel_rfl) (HS2.out w9.drew ((Below.refl w9.heap.size w9).drew)) (fun hHeld => ?_)
        refine wpAnyH_take (i := 0) (oi := _) (v := ?y1v0) rfl (by kernel_rfl) (by kernel_rfl) (by kernel_rfl) (fun _ _ _ h => h) (Or.inl ⟨by rfl, ?y1y0⟩) hHeld ?y1r0
        case y1y0 => (intro w hSw; (try dsimp only at hSw); go_simp; (first | done | with_reducible rfl))
        case y1r0 =>
        (try simp only [Act.put, List.setIfInBounds_toArray, List.set_cons_zero, List.set_cons_succ, List.getElem_toArray, List.getElem_cons_succ, List.getElem_cons_zero])
        refine wpAnyH_take (i := 1) (oi := _) (v := ?y1v1) rfl (by kernel_rfl) (by kernel_rfl) (by kernel_rfl) (fun _ _ _ h => h) (Or.inl ⟨by rfl, ?y1y1⟩) hHeld ?y1r1
        case y1y1 => (intro w hSw; (try dsimp only at hSw); go_simp; (first | done | with_reducible rfl))
        case y1r1 =>
        (try simp only [Act.put, List.setIfInBounds_toArray, List.set_cons_zero, List.set_cons_succ, List.getElem_toArray, List.getElem_cons_succ, List.getElem_cons_zero])
        refine wpAnyH_take (i := 2) (oi := _) (v := ?y1v2) rfl (by kernel_rfl) (by kernel_rfl) (by kernel_rfl) (fun _ _ _ h => h) (Or.inl ⟨by rfl, ?y1y2⟩) hHeld ?y1r2
        case y1y2 => (intro w hSw; (try dsimp only at hSw); go_simp; (first | done | with_reducible rfl))
        case y1r2 =>
        (try simp only [Act.put, List.setIfInBounds_toArray, List.set_cons_zero, List.set_cons_succ, List.getElem_toArray, List.getElem_cons_succ, List.getElem_cons_zero])
        refine wpAnyH_take (i := 3) (oi := _) (v := ?y1v3) rfl (by kernel_rfl) (by kernel_rfl) (by kernel_rfl) (fun _ _ _ h => h) (Or.inl ⟨by rfl, ?y1y3⟩) hHeld ?y1r3
        case y1y3 => (intro w hSw; (try dsimp only at hSw); go_simp; (first | done | with_reducible rfl))
        case y1r3 =>
        (try simp only [Act.put, List.setIfInBounds_toArray, List.set_cons_zero, List.set_cons_succ, List.getElem_toArray, List.getElem_cons_succ, List.getElem_cons_zero])
        refine wpAnyH_take (i := 4) (oi := _) (v := ?y1v4) rfl (by kernel_rfl) (by kernel_rfl) (by kernel_rfl) (fun _ _ _ h => h) (Or.inl ⟨by rfl, ?y1y4⟩) hHeld ?y1r4
        case y1y4 => (intro w hSw; (try dsimp only at hSw); go_simp; (first | done | with_reducible rfl))
        case y1r4 =>
        (try simp only [Act.put, List.setIfInBounds_toArray, List.set_cons_zero, List.set_cons_succ, List.getElem_toArray, List.getElem_cons_succ, List.getElem_cons_zero])
        refine wpAnyH_take (i := 5) (oi := _) (v := ?y1v5) rfl (by kernel_rfl) (by kernel_rfl) (by kernel_rfl) (fun _ _ _ h => h) (Or.inl ⟨by rfl, ?y1y5⟩) hHeld ?y1r5
        case y1y5 => (intro w hSw; (try dsimp only at hSw); go_simp; (first | done | with_reducible rfl))
        case y1r5 =>
        (try simp only [Act.put, List.setIfInBounds_toArray, List.set_cons_zero, List.set_cons_succ, List.getElem_toArray, List.getElem_cons_succ, List.getElem_cons_zero])
        refine wpAnyH_take (i := 6) (oi := _) (v := ?y1v6) rfl (by kernel_rfl) (by kernel_rfl) (by kernel_rfl) (fun _ _ _ h => h) (Or.inl ⟨by rfl, ?y1y6⟩) hHeld ?y1r6
        case y1y6 => (intro w hSw; (try dsimp only at hSw); go_simp; (first | done | with_reducible rfl))
        case y1r6 =>
        (try simp only [Act.put, List.setIfInBounds_toArray, List.set_cons_zero, List.set_cons_succ, List.getElem_toArray, List.getElem_cons_succ, List.getElem_cons_zero])
        refine wpAnyH_take (i := 7) (oi := _) (v := ?y1v7) rfl (by kernel_rfl) (by kernel_rfl) (by kernel_rfl) (fun _ _ _ h => h) (Or.inl ⟨by rfl, ?y1y7⟩) hHeld ?y1r7
        case y1y7 => (intro w hSw; (try dsimp only at hSw); go_simp; (first | done | with_reducible rfl))
        case y1r7 =>
        (try simp only [Act.put, List.setIfInBounds_toArray, List.set_cons_zero, List.set_cons_succ, List.getElem_toArray, List.getElem_cons_succ, List.getElem_cons_zero])
        refine wpAnyH_take (i := 8) (oi := _) (v := ?y1v8) rfl (by kernel_rfl) (by kernel_rfl) (by kernel_rfl) (fun _ _ _ h => h) (Or.inl ⟨by rfl, ?y1y8⟩) hHeld ?y1r8
        case y1y8 => (intro w hSw; (try dsimp only at hSw); go_simp; (first | done | with_reducible rfl))
        case y1r8 =>
        (try simp only [Act.put, List.setIfInBounds_toArray, List.set_cons_zero, List.set_cons_succ, List.getElem_toArray, List.getElem_cons_succ, List.getElem_cons_zero])
        refine wpAnyH_take (i := 9) (oi := _) (v := ?y1v9) rfl (by kernel_rfl) (by kernel_rfl) (by kernel_rfl) (fun _ _ _ h => h) (Or.inl ⟨by rfl, ?y1y9⟩) hHeld ?y1r9
        case y1y9 => (intro w hSw; (try dsimp only at hSw); go_simp; (first | done | with_reducible rfl))
        case y1r9 =>
        (try simp only [Act.put, List.setIfInBounds_toArray, List.set_cons_zero, List.set_cons_succ, List.getElem_toArray, List.getElem_cons_succ, List.getElem_cons_zero])
        refine wpAnyH_take (i := 10) (oi := _) (v := ?y1v10) rfl (by kernel_rfl) (by kernel_rfl) (by kernel_rfl) (fun _ _ _ h => h) (Or.inl ⟨by rfl, ?y1y10⟩) hHeld ?y1r10
        case y1y10 => (intro w hSw; (try dsimp only at hSw); go_simp; (first | done | with_reducible rfl))
        case y1r10 =>
        (try simp only [Act.put, List.setIfInBounds_toArray, List.set_cons_zero, List.set_cons_succ, List.getElem_toArray, List.getElem_cons_succ, List.getElem_cons_zero])
        refine wpAnyH_take (i := 11) (oi := _) (v := ?y1v11) rfl (by kernel_rfl) (by kernel_rfl) (by kernel_rfl) (fun _ _ _ h => h) (Or.inl ⟨by rfl, ?y1y11⟩) hHeld ?y1r11
        case y1y11 => (intro w hSw; (try dsimp only at hSw); go_simp; (first | done | with_reducible rfl))
        case y1r11 =>
        (try simp only [Act.put, List.setIfInBounds_toArray, List.set_cons_zero, List.set_cons_succ, List.getElem_toArray, List.getElem_cons_succ, List.getElem_cons_zero])
        refine wpAnyH_take (i := 12) (oi := _) (v := ?y1v12) rfl (by kernel_rfl) (by kernel_rfl) (by kernel_rfl) (fun _ _ _ h => h) (Or.inl ⟨by rfl, ?y1y12⟩) hHeld ?y1r12
        case y1y12 => (intro w hSw; (try dsimp only at hSw); go_simp; (first | done | with_reducible rfl))
        case y1r12 =>
        (try simp only [Act.put, List.setIfInBounds_toArray, List.set_cons_zero, List.set_cons_succ, List.getElem_toArray, List.getElem_cons_succ, List.getElem_cons_zero])
        refine wpAnyH_take (i := 13) (oi := _) (v := ?y1v13) rfl (by kernel_rfl) (by kernel_rfl) (by kernel_rfl) (fun _ _ _ h => h) (Or.inl ⟨by rfl, ?y1y13⟩) hHeld ?y1r13
        case y1y13 => (intro w hSw; (try dsimp only at hSw); go_simp; (first | done | with_reducible rfl))
        case y1r13 =>
        (try simp only [Act.put, List.setIfInBounds_toArray, List.set_cons_zero, List.set_cons_succ, List.getElem_toArray, List.getElem_cons_succ, List.getElem_cons_zero])
        refine wpAnyH_take (i := 14) (oi := _) (v := ?y1v14) rfl (by kernel_rfl) (by kernel_rfl) (by kernel_rfl) (fun _ _ _ h => h) (Or.inl ⟨by rfl, ?y1y14⟩) hHeld ?y1r14
        case y1y14 => (intro w hSw; (try dsimp only at hSw); go_simp; (first | done | with_reducible rfl))
        case y1r14 =>
        (try simp only [Act.put, List.setIfInBounds_toArray, List.set_cons_zero, List.set_cons_succ, List.getElem_toArray, List.getElem_cons_succ, List.getElem_cons_zero])
        refine wpAnyH_take (i := 15) (oi := _) (v := ?y1v15) rfl (by kernel_rfl) (by kernel_rfl) (by kernel_rfl) (fun _ _ _ h => h) (Or.inl ⟨by rfl, ?y1y15⟩) hHeld ?y1r15
        case y1y15 => (intro w hSw; (try dsimp only at hSw); go_simp; (first | done | with_reducible rfl))
        case y1r15 =>
        (try simp only [Act.put, List.setIfInBounds_toArray, List.set_cons_zero, List.set_cons_succ, List.getElem_toArray, List.getElem_cons_succ, List.getElem_cons_zero])
        refine wpAnyH_take (i := 16) (oi := _) (v := ?y1v16) rfl (by kernel_rfl) (by kernel_rfl) (by kernel_rfl) (fun _ _ _ h => h) (Or.inl ⟨by rfl, ?y1y16⟩) hHeld ?y1r16
        case y1y16 => (intro w hSw; (try dsimp only at hSw); go_simp; (first | done | with_reducible rfl))
        case y1r16 =>
        (try simp only [Act.put, List.setIfInBounds_toArray, List.set_cons_zero, List.set_cons_succ, List.getElem_toArray, List.getElem_cons_succ, List.getElem_cons_zero])
        refine wpAnyH_take (i := 17) (oi := _) (v := ?y1v17) rfl (by kernel_rfl) (by kernel_rfl) (by kernel_rfl) (fun _ _ _ h => h) (Or.inl ⟨by rfl, ?y1y17⟩) hHeld ?y1r17
        case y1y17 => (intro w hSw; (try dsimp only at hSw); go_simp; (first | done | with_reducible rfl))
        case y1r17 =>
        (try simp only [Act.put, List.setIfInBounds_toArray, List.set_cons_zero, List.set_cons_succ, List.getElem_toArray, List.getElem_cons_succ, List.getElem_cons_zero])
        refine wpAnyH_take (i := 18) (oi := _) (v := ?y1v18) rfl (by kernel_rfl) (by kernel_rfl) (by kernel_rfl) (fun _ _ _ h => h) (Or.inl ⟨by rfl, ?y1y18⟩) hHeld ?y1r18
        case y1y18 => (intro w hSw; (try dsimp only at hSw); go_simp; (first | done | with_reducible rfl))
        case y1r18 =>
        (try simp only [Act.put, List.setIfInBounds_toArray, List.set_cons_zero, List.set_cons_succ, List.getElem_toArray, List.getElem_cons_succ, List.getElem_cons_zero])
        refine wpAnyH_take (i := 19) (oi := _) (v := ?y1v19) rfl (by kernel_rfl) (by kernel_rfl) (by kernel_rfl) (fun _ _ _ h => h) (Or.inl ⟨by rfl, ?y1y19⟩) hHeld ?y1r19
        case y1y19 => (intro w hSw; (try dsimp only at hSw); go_simp; (first | done | with_reducible rfl))
        case y1r19 =>
        (try simp only [Act.put, List.setIfInBounds_toArray, List.set_cons_zero, List.set_cons_succ, List.getElem_toArray, List.getElem_cons_succ, List.getElem_cons_zero])
        refine wpAnyH_take (i := 20) (oi := _) (v := ?y1v20) rfl (by kernel_rfl) (by kernel_rfl) (by kernel_rfl) (fun _ _ _ h => h) (Or.inl ⟨by rfl, ?y1y20⟩) hHeld ?y1r20
        case y1y20 => (intro w hSw; (try dsimp only at hSw); go_simp; (first | done | with_reducible rfl))
        case y1r20 =>
        (try simp only [Act.put, List.setIfInBounds_toArray, List.set_cons_zero, List.set_cons_succ, List.getElem_toArray, List.getElem_cons_succ, List.getElem_cons_zero])
        refine wpAnyH_take (i := 21) (oi := _) (v := ?y1v21) rfl (by kernel_rfl) (by kernel_rfl) (by kernel_rfl) (fun _ _ _ h => h) (Or.inl ⟨by rfl, ?y1y21⟩) hHeld ?y1r21
        case y1y21 => (intro w hSw; (try dsimp only at hSw); go_simp; (first | done | with_reducible rfl))
        case y1r21 =>
        (try simp only [Act.put, List.setIfInBounds_toArray, List.set_cons_zero, List.set_cons_succ, List.getElem_toArray, List.getElem_cons_succ, List.getElem_cons_zero])
        refine wpAnyH_take (i := 22) (oi := _) (v := ?y1v22) rfl (by kernel_rfl) (by kernel_rfl) (by kernel_rfl) (fun _ _ _ h => h) (Or.inl ⟨by rfl, ?y1y22⟩) hHeld ?y1r22
        case y1y22 => (intro w hSw; (try dsimp only at hSw); go_simp; (first | done | with_reducible rfl))
        case y1r22 =>
        (try simp only [Act.put, List.setIfInBounds_toArray, List.set_cons_zero, List.set_cons_succ, List.getElem_toArray, List.getElem_cons_succ, List.getElem_cons_zero])
        refine wpAnyH_take (i := 23) (oi := _) (v := ?y1v23) rfl (by kernel_rfl) (by kernel_rfl) (by kernel_rfl) (fun _ _ _ h => h) (Or.inl ⟨by rfl, ?y1y23⟩) hHeld ?y1r23
        case y1y23 => (intro w hSw; (try dsimp only at hSw); go_simp; (first | done | with_reducible rfl))
        case y1r23 =>
        (try simp only [Act.put, List.setIfInBounds_toArray, List.set_cons_zero, List.set_cons_succ, List.getElem_toArray, List.getElem_cons_succ, List.getElem_cons_zero])
        refine wpAnyH_ready (rs := [24]) (by kernel_rfl) (by simp) ?_
        refine AllReadyH.cons (o := _) rfl (fun K hK => ?_) AllReadyH.nil
        go_simp
        (go_at_call 13; refine (HKD.out w9.drew ((Below.refl w9.heap.size w9).drew)).mono ?_; rintro e w10 ⟨rfl, hw10⟩; have hw10' := hw10.symm; subst hw10')
        go_wp2_with fail
        refine hK.out _ _ ?y1s24 (fun hNow => ?y1r24)
        case y1s24 => exact HS2.out _ ((Below.refl w9.heap.size w9).drew)
        case y1r24 =>
        clear hK K hHeld
        have hHeld := hNow
        clear hNow
        (try simp only [Act.put, List.setIfInBounds_toArray, List.set_cons_zero, List.set_cons_succ, List.getElem_toArray, List.getElem_cons_succ, List.getElem_cons_zero])
        refine wpAnyH_take (i := 25) (oi := _) (v := ?y1v25) rfl (by kernel_rfl) (by kernel_rfl) (by kernel_rfl) (fun _ _ _ h => h) (Or.inl ⟨by rfl, ?y1y25⟩) hHeld ?y1r25
        case y1y25 => (intro w hSw; (try dsimp only at hSw); go_simp; (first | done | with_reducible rfl))
        case y1r25 =>
        (try simp only [Act.put, List.setIfInBounds_toArray, List.set_cons_zero, List.set_cons_succ, List.getElem_toArray, List.getElem_cons_succ, List.getElem_cons_zero])
        refine wpAnyH_take (i := 26) (oi := _) (v := ?y1v26) rfl (by kernel_rfl) (by kernel_rfl) (by kernel_rfl) (fun _ _ _ h => h) (Or.inl ⟨by rfl, ?y1y26⟩) hHeld ?y1r26
        case y1y26 => (intro w hSw; (try dsimp only at hSw); go_simp; (first | done | with_reducible rfl))
        case y1r26 =>
        (try simp only [Act.put, List.setIfInBounds_toArray, List.set_cons_zero, List.set_cons_succ, List.getElem_toArray, List.getElem_cons_succ, List.getElem_cons_zero])
        refine wpAnyH_take (i := 27) (oi := _) (v := ?y1v27) rfl (by kernel_rfl) (by kernel_rfl) (by kernel_rfl) (fun _ _ _ h => h) (Or.inl ⟨by rfl, ?y1y27⟩) hHeld ?y1r27
        case y1y27 => (intro w hSw; (try dsimp only at hSw); go_simp; (first | done | with_reducible rfl))
        case y1r27 =>
        (try simp only [Act.put, List.setIfInBounds_toArray, List.set_cons_zero, List.set_cons_succ, List.getElem_toArray, List.getElem_cons_succ, List.getElem_cons_zero])
        refine wpAnyH_take (i := 28) (oi := _) (v := ?y1v28) rfl (by kernel_rfl) (by kernel_rfl) (by kernel_rfl) (fun _ _ _ h => h) (Or.inl ⟨by rfl, ?y1y28⟩) hHeld ?y1r28
        case y1y28 => (intro w hSw; (try dsimp only at hSw); go_simp; (first | done | with_reducible rfl))
        case y1r28 =>
        (try simp only [Act.put, List.setIfInBounds_toArray, List.set_cons_zero, List.set_cons_succ, List.getElem_toArray, List.getElem_cons_succ, List.getElem_cons_zero])
        refine wpAnyH_take (i := 29) (oi := _) (v := ?y1v29) rfl (by kernel_rfl) (by kernel_rfl) (by kernel_rfl) (fun _ _ _ h => h) (Or.inl ⟨by rfl, ?y1y29⟩) hHeld ?y1r29
        case y1y29 => (intro w hSw; (try dsimp only at hSw); go_simp; (first | done | with_reducible rfl))
        case y1r29 =>
        (try simp only [Act.put, List.setIfInBounds_toArray, List.set_cons_zero, List.set_cons_succ, List.getElem_toArray, List.getElem_cons_succ, List.getElem_cons_zero])
        refine wpAnyH_take (i := 31) (oi := _) (v := ?y1v31) rfl (by kernel_rfl) (by kernel_rfl) (by kernel_rfl) (fun _ _ _ h => h) (Or.inl ⟨by rfl, ?y1y31⟩) hHeld ?y1r31
        case y1y31 => (intro w hSw; (try dsimp only at hSw); go_simp; (first | done | with_reducible rfl))
        case y1r31 =>
        (try simp only [Act.put, List.setIfInBounds_toArray, List.set_cons_zero, List.set_cons_succ, List.getElem_toArray, List.getElem_cons_succ, List.getElem_cons_zero])
        refine wpAnyH_take (i := 32) (oi := _) (v := ?y1v32) rfl (by kernel_rfl) (by kernel_rfl) (by kernel_rfl) (fun _ _ _ h => h) (Or.inl ⟨by rfl, ?y1y32⟩) hHeld ?y1r32
        case y1y32 => (intro w hSw; (try dsimp only at hSw); go_simp; (first | done | with_reducible rfl))
        case y1r32 =>
        (try simp only [Act.put, List.setIfInBounds_toArray, List.set_cons_zero, List.set_cons_succ, List.getElem_toArray, List.getElem_cons_succ, List.getElem_cons_zero])
        refine wpAnyH_ready (rs := [30]) (by kernel_rfl) (by simp) ?_
        refine AllReadyH.cons (o := _) rfl (fun K hK => ?_) AllReadyH.nil
        go_simp
        (go_at_call 13; refine (HKC.out w9.drew ((Below.refl w9.heap.size w9).drew)).mono ?_; rintro e w11 ⟨rfl, hw11⟩; have hw11' := hw11.symm; subst hw11')
        go_wp2_with fail
        refine hK.out _ _ ?y1s30 (fun hNow => ?y1r30)
        case y1s30 => exact HS2.out _ ((Below.refl w9.heap.size w9).drew)
        case y1r30 =>
        clear hK K hHeld
        have hHeld := hNow
        clear hNow
        (try simp only [Act.put, List.setIfInBounds_toArray, List.set_cons_zero, List.set_cons_succ, List.getElem_toArray, List.getElem_cons_succ, List.getElem_cons_zero])
        refine wpAnyH_take (i := 33) (oi := _) (v := ?y1v33) rfl (by kernel_rfl) (by kernel_rfl) (by kernel_rfl) (fun _ _ _ h => h) (Or.inl ⟨by rfl, ?y1y33⟩) hHeld ?y1r33
        case y1y33 => (intro w hSw; (try dsimp only at hSw); go_simp; (first | done | with_reducible rfl))
        case y1r33 =>
        (try simp only [Act.put, List.setIfInBounds_toArray, List.set_cons_zero, List.set_cons_succ, List.getElem_toArray, List.getElem_cons_succ, List.getElem_cons_zero])
        refine wpAnyH_take (i := 34) (oi := _) (v := ?y1v34) rfl (by kernel_rfl) (by kernel_rfl) (by kernel_rfl) (fun _ _ _ h => h) (Or.inl ⟨by rfl, ?y1y34⟩) hHeld ?y1r34
        case y1y34 => (intro w hSw; (try dsimp only at hSw); go_simp; (first | done | with_reducible rfl))
        case y1r34 =>
        (try simp only [Act.put, List.setIfInBounds_toArray, List.set_cons_zero, List.set_cons_succ, List.getElem_toArray, List.getElem_cons_succ, List.getElem_cons_zero])
        refine wpAnyH_done (by kernel_rfl) ?_ _
        go_wp2_with fail
        go_roundw
        case rel => exact ⟨i + 1, by omega, by go_num, HB39.out.drew⟩
        case measure => simp [RowKit.intOf]; omega
      · have d8 : decide ((i : Int) < (nf : Int)) = false := by rw [decide_eq_false_iff_not]; omega
        have HBA : Hid (Below w.heap.size w wr) := HB1.out.trans ((HB13.out.trans (HB.out.mono HB13.out.size)).mono HB1.out.size)
        have HDR : Hid (Dk wr w.heap.size d D) := HD3.out.below HB.out (Nat.le_refl _)
        have HSY := Lib.hid (syncA_pd w.heap.size d D none 0 wr HDR.out)
        rw [HPE.out] at HSY
        cases hbu : p.burnt with
        | true =>
          have hq : p.syncA = (9, p) := by unfold PD.syncA; rw [chg_gone hbu]
          rw [hq] at HSY
          have HSY2 : Hid (Calls Try.prog 14 #[.pointer (some ⟨d, 0, none⟩), .slice none 0 0] wr fun e w' => e = .returned (.int .i64 9) ∧ Below w.heap.size w w') := HSY.out.mono fun e w' ⟨D', he, ht, _⟩ => ⟨he, HBA.out.trans (ht.tu.below HDR.out.base_le HBA.out.size)⟩
          clear hbu hq HSY
          go_wp2_with (first
            | (go_at_call 14; (with_reducible refine HSY2.out.mono ?_); rintro e w12 ⟨rfl, hb12⟩)
            | (go_at_call 8; (with_reducible refine (awake4_any _).mono ?_); rintro e w13 ⟨rfl, hb13⟩))
          go_ret
          exact ⟨rfl, hb12.trans (hb13.mono hb12.size)⟩
        | false =>
          have hq : p.syncA = (0, PD.burn { p with F := syncF (allN p.F) p.F }) := by unfold PD.syncA; rw [chg_ok hbu]
          rw [hq] at HSY
          have hFq : (PD.burn { p with F := syncF (allN p.F) p.F }).F = syncF (allN p.F) p.F := by unfold PD.burn; split <;> rfl
          have HSY2 : Hid (Calls Try.prog 14 #[.pointer (some ⟨d, 0, none⟩), .slice none 0 0] wr fun e w' => e = .returned (.int .i64 0) ∧ ∃ D', Dk w' w.heap.size d D' ∧ (pd D').F = syncF (allN p.F) p.F ∧ Below w.heap.size w w' ∧ ∀ i, i < nf → ∃ q, An = some q ∧ q.block < w'.heap.size ∧ w'.cell? (q.add i) = some (.string (p.F.getD i default).name)) := HSY.out.mono fun e w' ⟨D', he, ht, hp⟩ => by
            refine ⟨he, D', ht.dk, by rw [hp]; exact hFq, HBA.out.trans (ht.tu.below HDR.out.base_le HBA.out.size), fun i hi => ?_⟩
            obtain ⟨qn, hqn, hqb, hqo, hqc, _⟩ := HN3.out.row i hi
            rw [HNA.out i hi] at hqc
            have h1 : wr.heap[qn.block]? = w3.heap[qn.block]? := HB.out.block _ hqb
            have h2 := ht.block (k := qn.block) (by have := HB.out.size; omega) hqo
            exact ⟨qn, hqn, by have := HB.out.size; have := ht.tu.size; omega, (World.cell?_of_block (a := qn.add i) (by rw [add_block]; exact h2.trans h1)).trans hqc⟩
          clear hbu hq HSY hFq
          go_wp2_with (go_at_call 14; (with_reducible refine HSY2.out.mono ?_); rintro e w12 ⟨rfl, D2, hd12, hp12, hb12, hn12⟩)
          have HD12 := Lib.hid hd12
          have HB12 := Lib.hid hb12
          have HN12 := Lib.hid hn12
          have HM12 : Hid (∀ i, i < nf → keptF (p.F.getD i default) ∈ (pd D2).F ∧ (syncF (allN p.F) p.F).getD i default = keptF (p.F.getD i default) ∧ i < (pd D2).F.length) := fun i hi => by
            have hi2 : i < p.F.length := by rw [HNF.out]; exact hi
            rw [hp12]
            exact ⟨mem_sync (mem_getD hi2), getD_sync hi2, by unfold syncF; rw [List.length_map]; exact hi2⟩
          have HP12 := Lib.hid hp12
          clear hd12 hp12 hb12 hn12 HSY2
          go_loopw [116] (fun iv ws => ∃ i : Nat, i ≤ nf ∧ iv = .int .i64 i ∧ Hid (Below w12.heap.size w12 ws)) (fun iv _ => nf - (RowKit.intOf iv).toNat)
          case atStart => exact ⟨0, by omega, rfl, Below.refl _ _⟩
          case round =>
            obtain ⟨i, hi, rfl, HBS⟩ := hrel
            by_cases hit : i < nf
            · have hiz : (i : Int) < (nf : Int) := by omega
              obtain ⟨qn, hqn, hqb, hqc⟩ := HN12.out i hit
              subst hqn
              have y1 : wr.cell? (qn.add i) = some (.string (p.F.getD i default).name) := (HBS.out.cell (by rw [add_block]; exact hqb)).trans hqc
              obtain ⟨hm1, hm2, hm3⟩ := HM12.out i hit
              have hcm : crash1 [] i (keptF (p.F.getD i default)) ∈ ((pd D2).crash []).F := by
                have h1 := crashF_mem [] (pd D2).F (pd D2).F.length i hm3
                rw [HP12.out, hm2] at h1
                show _ ∈ crashF [] (pd D2).F (pd D2).F.length
                rw [HP12.out]
                exact h1
              generalize p.F.getD i default = f at *
              have hcr : crash1 [] i (keptF f) = keptF f := by
                unfold crash1 pickAt keptF
                have h0 : lastN4 f.b.length f.b.length 0 = f.b.length := by unfold lastN4; omega
                simp only [List.length_nil, if_true, ↓reduceIte, h0, List.take_length]
              rw [hcr] at hcm
              have HRD : Hid (∀ W, Below w12.heap.size w12 W → Calls Try.prog 12 #[.pointer (some ⟨d, 0, none⟩), .string f.name] W fun e w' => ∃ A c, e = .returned (.tuple #[.slice A (bst f.b).size c, .int .i64 0]) ∧ (bst f.b).size ≤ c ∧ c ≤ maxLen ∧ Own w' W.heap.size (.slice A (bst f.b).size c) f.b ∧ Below W.heap.size W w') := fun W hW => readF_any (f := keptF f) (HD12.out.below hW (Nat.le_refl _)) hm1
              have HCR : Hid (∀ W, Below w12.heap.size w12 W → Calls Try.prog 9 #[.pointer (some ⟨d, 0, none⟩), .slice none 0 0] W fun e w' => ∃ (cb : Nat) (Dc : Dsk), e = .returned (.pointer (some ⟨cb, 0, none⟩)) ∧ Dk w' W.heap.size cb Dc ∧ pd Dc = (pd D2).crash [] ∧ Below W.heap.size W w') := fun W hW => crash_pd w.heap.size d D2 none 0 0 [] W (HD12.out.below hW (Nat.le_refl _)) ⟨rfl, fun k hk => by omega⟩ (by decide)
              have HRC : Hid (∀ (W V : World) (cb : Nat) (Dc : Dsk), Dk W V.heap.size cb Dc → pd Dc = (pd D2).crash [] → Calls Try.prog 12 #[.pointer (some ⟨cb, 0, none⟩), .string f.name] W fun e w' => ∃ A c, e = .returned (.tuple #[.slice A (bst f.b).size c, .int .i64 0]) ∧ (bst f.b).size ≤ c ∧ c ≤ maxLen ∧ Own w' W.heap.size (.slice A (bst f.b).size c) f.b ∧ Below W.heap.size W w') := fun W V cb Dc hd hq => readF_any (f := keptF f) hd (by rw [hq]; exact hcm)
              have hsz : f.b.length = (bst f.b).size := (bst_size f.b).symm
              have HLF := Lib.hid hsz
              have HCV : Hid (∀ W B A c, Own W B (.slice A (bst f.b).size c) f.b → (convert 33 9 (.slice A (bst f.b).size c)).run Try.prog W = .ok (.string (bst f.b)) W) := fun W B A c ho => by
                have h1 := Own.cv ho HLF.out (Nat.le_refl _)
                rw [List.take_of_length_le (by rw [HLF.out]; exact Nat.le_refl _)] at h1
                exact h1
              generalize bst f.b = bf at *
              generalize f.name = fn at *
              generalize f.b = fl at *
              clear hm1 hm2 hm3 hcm hcr hsz hqb hqc
              go_upto_region 24 with (first
                | (go_at_call 12; (with_reducible refine (HRC.out _ _ _ _ hd15 hq15).mono ?_); rintro e w16 ⟨Ab, cb2, rfl, _, _, ho16, hb16⟩)
                | (go_at_call 9; (with_reducible refine (HCR.out _ hb14').mono ?_); rintro e w15 ⟨cq, Dq, rfl, hd15, hq15, hb15⟩)
                | (go_at_call 12; (with_reducible refine (HRD.out _ HBS.out).mono ?_); rintro e w14 ⟨Aa, ca, rfl, _, _, ho14, hb14⟩; have hb14' := HBS.out.trans (hb14.mono HBS.out.size)))
              have hb1416 := hb15.trans (hb16.mono hb15.size)
              have e1 := HCV.out w16 _ Aa ca (ho14.below hb1416 (Nat.le_refl _))
              have e2 := HCV.out w16 _ Ab cb2 ho16
              have HB16 := Lib.hid (hb14'.trans (hb1416.mono hb14'.size))
              clear ho14 ho16 hb14 hb14' hb15 hb16 hb1416 hd15 hq15 y1
              go_wp2_with fail
              go_roundw
              case rel => exact ⟨i + 1, by omega, by go_num, HB16.out⟩
              case measure => simp [RowKit.intOf]; omega
            · have d9 : decide ((i : Int) < (nf : Int)) = false := by rw [decide_eq_false_iff_not]; omega
              have HBE : Hid (Below w.heap.size w wr) := HB12.out.trans (HBS.out.mono HB12.out.size)
              go_wp2_with (go_at_call 8; (with_reducible refine (awake4_any _).mono ?_); rintro e w13 ⟨rfl, hb13⟩)
              go_ret
              exact ⟨rfl, HBE.out.trans (hb13.mono HBE.out.size)⟩
end Go.Proofs.Ytebkgcnldbkgeaa
