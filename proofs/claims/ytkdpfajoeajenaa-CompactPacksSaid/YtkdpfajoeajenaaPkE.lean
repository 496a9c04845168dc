/-
  What compact.Pack does.
-/
import Derived.Test.YtkdpfajoeajenaaPkB
import Derived.Test.YtkdpfajoeajenaaPkD
namespace Go.Proofs.Ytkdpfajoeajenaa
open Go.RowKit Go.Lib
set_option linter.unusedVariables false
set_option linter.unusedSimpArgs false

def slLen : Value → Nat
  | .slice _ n _ => n
  | _ => 0
theorem zero_batP : (Try.prog.info? 24).map (fun i => (i.zero, i.size, i.bytes)) = some (some (.agg #[.int .i64 0, .int .i64 0, .int .i64 0, .int .i64 0, .int .i64 0, .int .i64 0, .slice none 0 0]), 7, 72) := by kernel_rfl
theorem batch_rcs {w : World} {base n c : Nat} {A : Option Addr} {L : List AtC} (h : w.ownsRow base 38 4 (.slice A n c) n (rcells (L.map AtC.r))) (hn : L.length = n) (ho : ∀ r ∈ L, r.ok) : Rcs w w.heap.size A n (L.map AtC.r) ∧ n ≤ c ∧ c ≤ maxLen := by
  obtain ⟨A', c', hv, h1, h2, h3, _⟩ := Rcs.of_own h (by rw [List.length_map]; exact hn) (fun r hr => by
    obtain ⟨a, ha, rfl⟩ := List.mem_map.1 hr
    exact ⟨(ho a ha).2.2.2.2.1, (ho a ha).2.2.2.2.2⟩)
  injection hv with e1 _ e2
  subst e1 e2
  exact ⟨h3, h1, h2⟩
theorem Ml.nil_at {w wr : World} (h : Below w.heap.size w wr) : Ml w wr (.slice none 0 0) [] := ⟨World.ownsRow_nil _ _ _ _, (fun x h => by cases h), (fun x h => by cases h), h⟩
set_option maxRecDepth 100000 in
set_option maxHeartbeats 8000000 in
theorem pack_any (A : Option Addr) (n c : Nat) (L : List AtC) (w : World) (h : Acs w w.heap.size A n L) (hn : n ≤ 150) (hc : n ≤ c) (hcm : c ≤ maxLen) :
    Calls Try.prog 17 #[.slice A n c] w fun e w' => PackP L w e w' := by
  obtain ⟨j0, qj0, qy0, qy1, qy2⟩ := info_parts zero_batP
  have hlen := h.len
  have HIN : Hid (∀ W, Below w.heap.size w W → Calls Try.prog 44 #[.slice A n c] W fun e w' => e = .returned (.bool (incB L)) ∧ Below W.heap.size W w') := fun W hW => increase_any A n c L W ((h.below hW).wider hW.size) (by omega)
  have HPE : Hid (packE L = if incB L = true then badE (packs n L) else 8) := by show _ = _; unfold packE; rw [hlen]
  have HPM : Hid (packE L = 0 → packM L = packs n L) := fun e => by unfold packM; rw [if_pos e, hlen]
  have HPN : Hid (packE L ≠ 0 → packM L = []) := fun e => by unfold packM; rw [if_neg e]
  have HOK := Lib.hid h.fit
  have HL := Lib.hid h
  unfold PackP
  generalize packE L = PE at *
  generalize packM L = PM at *
  generalize incB L = IB at *
  have H0 : Hid (packs n L = packs n L) := rfl
  obtain ⟨PK, hPK⟩ : ∃ PK, packs n L = PK := ⟨_, rfl⟩
  have HPK := Lib.hid hPK
  rw [hPK] at HPE HPM
  clear hPK H0 h
  unfold maxLen at hcm
  go_enter Try.func17, Try.ntmps17
  go_wp2_with fail
  refine (HIN.out _ (Below.refl _ _)).mono ?_
  rintro e w1 ⟨rfl, hb1⟩
  have HB1 := Lib.hid hb1
  clear hb1
  cases IB with
  | false =>
    have HE : Hid (PE = 8) := by show _ = _; rw [HPE.out]; rfl
    have HM : Hid (PM = []) := HPN.out (by rw [HE.out]; decide)
    go_wp2_with fail
    go_ret2
    exact ⟨_, [], by rw [HE.out]; rfl, by rw [HM.out]; rfl, Ml.nil_at HB1.out⟩
  | true =>
    have HE : Hid (PE = badE PK) := by show _ = _; rw [HPE.out]; rfl
    go_wp2_with fail
    go_loopw [0, 4] (fun l v wr => ∃ (Al : Option Addr) (m cl f : Nat) (Lr : List AtC) (M : List BA), l = .slice Al m cl ∧ m ≤ n ∧ m ≤ cl ∧ cl ≤ 9223372036854775807 ∧ m ≤ f ∧ M.length + m ≤ n ∧ Hid (Acs w w.heap.size Al m Lr) ∧ Hid (M.map BA.b ++ packs f Lr = PK) ∧ Hid (∀ x ∈ M.map BA.b, validE x = 0) ∧ Hid (Ml w wr v M)) (fun l _ _ => slLen l)
    case atStart => exact ⟨A, n, c, n, L, [], rfl, by omega, hc, by omega, by omega, by simp, HL.out, HPK.out, (fun x h => by cases h), Ml.nil_at HB1.out⟩
    case round =>
      obtain ⟨Al, m, cl, f, Lr, M, rfl, hmn, hmc, hcl, hmf, hMm, HA, HPC, HVD, HML⟩ := hrel
      by_cases hlt : 0 < m
      · have hlr := HA.out.len
        obtain ⟨p, rfl, hp, _⟩ := HA.out.row hlt
        obtain ⟨f', rfl, hpk, hdl⟩ := packs_cons f Lr (by omega) (by omega)
        have hrp := runN_pos Lr
        have hrl := runN_le Lr (by omega)
        have hml : 0 < (m : Int) := by omega
        have hdm : decide ((0 : Int) < (m : Int)) = true := by rw [decide_eq_true_iff]; exact hml
        have HRU : Hid (Calls Try.prog 45 #[.slice (some p) m cl] wr fun e w' => e = .returned (.int .i64 (runN Lr)) ∧ Below wr.heap.size wr w') := run_any (some p) m cl Lr wr ((HA.out.below HML.out.bel).wider HML.out.bel.size) (by omega) hlt
        have HPK2 : Hid (M.map BA.b ++ batchOf (Lr.take (runN Lr)) :: packs f' (Lr.drop (runN Lr)) = PK) := by show _ = _; rw [← hpk]; exact HPC.out
        have HFT := Lib.hid HA.out.fit
        have HDL := Lib.hid hdl
        generalize hR : runN Lr = R at *
        clear HPC hpk hdl hR
        go_upto_region 6 with (go_at_call 45; (with_reducible refine HRU.out.mono ?_); rintro e w2 ⟨rfl, hb2⟩)
        have HM2 := Lib.hid (HML.out.below hb2)
        have HA2 := Lib.hid ((HA.out.below HM2.out.bel).wider HM2.out.bel.size)
        clear hb2 HML HRU
        have hRm : R ≤ m := by omega
        have HBA : Hid (Calls Try.prog 46 #[.slice (some p) R cl] w2 fun e w' => ∃ A' c', e = .returned (.agg ((batchOf (Lr.take R)).cells A' c')) ∧ w'.ownsRow w2.heap.size 38 4 (.slice A' R c') R (rcells (batchOf (Lr.take R)).L) ∧ (∀ p, A' = some p → w2.heap.size ≤ p.block) ∧ Below w2.heap.size w2 w') := batch_any (some p) R cl (Lr.take R) w2 (HA2.out.take R hRm) hrl.2 hrp
        have HBL : Hid ((batchOf (Lr.take R)).L = (Lr.take R).map AtC.r) := rfl
        have HBN : Hid ((batchOf (Lr.take R)).L.length = R) := map_r_len Lr R (by omega)
        generalize batchOf (Lr.take R) = BO at *
        obtain ⟨bb, bp, be, bs, bk, bt, bL⟩ := BO
        simp only [Bat.cells] at HBA HBL HBN
        have hRc : (R : Int) ≤ (cl : Int) := by omega
        have hRm' : (R : Int) ≤ (m : Int) := by omega
        go_upto_region 7 with (go_at_call 46; (with_reducible refine HBA.out.mono ?_); rintro e w3 ⟨A', c', rfl, hb3o, hb3f, hb3⟩)
        rw [HBL.out] at hb3o
        obtain ⟨hb3r, hb3c, hb3m⟩ := batch_rcs hb3o (by rw [List.length_take]; omega) (fun r hr => HFT.out r (List.mem_of_mem_take hr))
        rw [← HBL.out] at hb3r
        have HM3 := Lib.hid (HM2.out.below hb3)
        have HF3 : Hid (bL ≠ [] → ∀ p, A' = some p → u4.ownBlock ≠ some p.block) := fun _ p hp e => by have h1 := hb3f p hp; have h2 := (World.ownsRow.lt HM2.out.own _ e).2; omega
        clear hb3 hb3o hb3f HA2 HM2
        have hal := (Below.refl w3.heap.size w3).alloc (Nat.le_refl _) (.cells #[.int .i64 bb, .int .i64 bp, .int .i64 be, .int .i64 bs, .int .i64 bk, .int .i64 bt, .slice A' bL.length c'] 24)
        have hN := heap_alloc_new w3 (.cells #[.int .i64 bb, .int .i64 bp, .int .i64 be, .int .i64 bs, .int .i64 bk, .int .i64 bt, .slice A' bL.length c'] 24)
        obtain ⟨w4, hw4⟩ : ∃ w4, w3.alloc (.cells #[.int .i64 bb, .int .i64 bp, .int .i64 be, .int .i64 bs, .int .i64 bk, .int .i64 bt, .slice A' bL.length c'] 24) = w4 := ⟨_, rfl⟩
        rw [hw4] at hal hN ⊢
        have HM4 := Lib.hid (HM3.out.below hal)
        have HR4 := Lib.hid ((hb3r.below hal).wider hal.size)
        rw [← HBN.out] at HR4
        have hbl64 : bL.length ≤ 64 := by have := HBN.out; omega
        have hz4 : w3.heap.size < w4.heap.size := (Array.getElem?_eq_some_iff.1 hN).1
        have HN4 := Lib.hid hN
        clear hw4 hal hb3r HM3
        have x0 := cell_of_row _ _ 0 _ _ _ hN
        have x1 := cell_of_row _ _ 1 _ _ _ hN
        have x2 := cell_of_row _ _ 2 _ _ _ hN
        have x3 := cell_of_row _ _ 3 _ _ _ hN
        have x4 := cell_of_row _ _ 4 _ _ _ hN
        have x5 := cell_of_row _ _ 5 _ _ _ hN
        have x6 := cell_of_row _ _ 6 _ _ _ hN
        have HVA : Hid (Calls Try.prog 10 #[.agg #[.int .i64 bb, .int .i64 bp, .int .i64 be, .int .i64 bs, .int .i64 bk, .int .i64 bt, .slice A' bL.length c']] w4 fun e w' => e = .returned (.int .i64 (validE ⟨bb, bp, be, bs, bk, bt, bL⟩)) ∧ Below w4.heap.size w4 w') := valid_any ⟨bb, bp, be, bs, bk, bt, bL⟩ A' c' w4.heap.size w4 HR4.out (Nat.le_refl _) (by unfold maxLen; show bL.length ≤ _; omega)
        have HVE : Hid (validE ⟨bb, bp, be, bs, bk, bt, bL⟩ = validE ⟨bb, bp, be, bs, bk, bt, bL⟩) := rfl
        obtain ⟨V, hV⟩ : ∃ V, validE ⟨bb, bp, be, bs, bk, bt, bL⟩ = V := ⟨_, rfl⟩
        have HV := Lib.hid hV
        rw [hV] at HVA
        clear hV HVE hN
        go_upto_region 8 with (go_at_call 10; (with_reducible refine HVA.out.mono ?_); rintro e w5 ⟨rfl, hb5⟩)
        have HM5 := Lib.hid (HM4.out.below hb5)
        have HR5 := Lib.hid ((HR4.out.below hb5).wider hb5.size)
        have hN5 := (hb5.block w3.heap.size hz4).trans HN4.out
        clear hb5 HM4 HR4 HVA x0 x1 x2 x3 x4 x5 x6 HN4
        by_cases hv0 : V = 0
        · have hvd : (V != 0) = false := by rw [hv0]; rfl
          have HV0 : Hid (validE ⟨bb, bp, be, bs, bk, bt, bL⟩ = 0) := by show _ = _; rw [HV.out, hv0]
          have HLD : Hid (Acs w w.heap.size (if cl = R then some p else some (p.add (R * 5))) (m - R) (Lr.drop R)) := HA.out.drop R cl hRm hmc
          obtain ⟨An, hAn, HTLA⟩ : ∃ An : Addr, (if cl = R then some p else some (p.add (R * 5))) = some An ∧ Hid (Acs w w.heap.size (some An) (m - R) (Lr.drop R)) := by
            by_cases hck : cl = R
            · exact ⟨p, by rw [if_pos hck], by have := HLD.out; rw [if_pos hck] at this; exact this⟩
            · exact ⟨p.add (R * 5), by rw [if_neg hck], by have := HLD.out; rw [if_neg hck] at this; exact this⟩
          have x0 := cell_of_row _ _ 0 _ _ _ hN5
          have x1 := cell_of_row _ _ 1 _ _ _ hN5
          have x2 := cell_of_row _ _ 2 _ _ _ hN5
          have x3 := cell_of_row _ _ 3 _ _ _ hN5
          have x4 := cell_of_row _ _ 4 _ _ _ hN5
          have x5 := cell_of_row _ _ 5 _ _ _ hN5
          have x6 := cell_of_row _ _ 6 _ _ _ hN5
          have hzw : w.heap.size ≤ w5.heap.size := HM5.out.bel.size
          have hown8 := HM5.out.own.alloc (.cells #[.int .i64 bb, .int .i64 bp, .int .i64 be, .int .i64 bs, .int .i64 bk, .int .i64 bt, .slice A' bL.length c'] 24)
          have hM150 : M.length ≤ 150 := by omega
          clear hN5 HLD HV hv0
          go_wp2_with (at_builtin; go_loud (refine wpList_append_own_at _ rfl (.tmp 25) (.tmp 27) 26 rfl w.heap.size 24 j0 _ 7 72 Try.underlying26 qj0 qy0 qy1 qy2 rfl (by decide) _ M.length (bcells M) rfl hown8 ⟨w5.heap.size, 0, none⟩ 1 1 [.int .i64 bb, .int .i64 bp, .int .i64 be, .int .i64 bs, .int .i64 bk, .int .i64 bt, .slice A' bL.length c'] rfl rfl (new_cells5 w5 [.int .i64 bb, .int .i64 bp, .int .i64 be, .int .i64 bs, .int .i64 bk, .int .i64 bt, .slice A' bL.length c'] _) ?g1 ?g2 ?g3 ?g4 ?_))
          case g1 => first | exact ⟨rfl, rfl, rfl, rfl, rfl, rfl, rfl⟩ | (intro u hu; simp at hu; rcases hu with rfl | rfl | rfl | rfl | rfl | rfl | rfl <;> rfl)
          case g2 => unfold maxLen; omega
          case g3 => omega
          case g4 => first | omega | (simp; omega)
          intro va w7 hown7 hg7 _ hat7
          have hala := (Below.refl w5.heap.size w5).alloc (Nat.le_refl _) (.cells #[.int .i64 bb, .int .i64 bp, .int .i64 be, .int .i64 bs, .int .i64 bk, .int .i64 bt, .slice A' bL.length c'] 24)
          have HPU := Lib.hid ((HM5.out.below hala).push (x := ⟨⟨bb, bp, be, bs, bk, bt, bL⟩, A', c'⟩) ⟨(HR5.out.below hala).wider hala.size, by show bL.length ≤ 80; omega, by show bL.length ≤ c'; have := HBN.out; omega, hb3m⟩ HF3.out hown7 hg7 (by simpa using hat7))
          clear hown7 hg7 hat7 hown8 hala x0 x1 x2 x3 x4 x5 x6
          go_wp2_with fail
          go_roundw
          case rel => exact ⟨some An, m - R, cl - R, f', Lr.drop R, M ++ [⟨⟨bb, bp, be, bs, bk, bt, bL⟩, A', c'⟩], rfl, by omega, by omega, by omega, by have := HDL.out; have := HTLA.out.len; omega, by simp; omega, HTLA, by show _ = _; rw [List.map_append, List.append_assoc]; exact HPK2.out, (fun x hx => by rw [List.map_append] at hx; rcases List.mem_append.1 hx with hx | hx; exact HVD.out x hx; (simp at hx; subst hx; exact HV0.out)), HPU⟩
          case measure => simp [slLen]; omega
        · have hvd : (V != 0) = true := by simpa using hv0
          have HBE : Hid (PE = V) := by
            show _ = _
            rw [HE.out, ← HPK2.out, bad_app _ _ _ HVD.out (by rw [HV.out]; exact hv0), HV.out]
          have HM : Hid (PM = []) := HPN.out (by rw [HBE.out]; exact hv0)
          clear hN5 HV
          go_wp2_with fail
          go_ret2
          exact ⟨_, [], by rw [HBE.out]; rfl, by rw [HM.out]; rfl, Ml.nil_at HM5.out.bel⟩
      · obtain rfl : m = 0 := by omega
        have hlr := List.length_eq_zero_iff.1 HA.out.len
        subst hlr
        have HPC2 : Hid (M.map BA.b = PK) := by have e := HPC.out; rw [packs_nil, List.append_nil] at e; exact e
        have HE0 : Hid (PE = 0) := by show _ = _; rw [HE.out, ← HPC2.out]; exact bad_none _ HVD.out
        go_wp2_with fail
        go_ret2
        exact ⟨_, M, by rw [HE0.out]; rfl, by rw [HPM.out HE0.out]; exact HPC2.out, HML.out⟩
end Go.Proofs.Ytkdpfajoeajenaa
