/-
  What the document's Sync does.
-/
import Derived.Test.YtebkgcnldbkgeaaDpK
namespace Go.Proofs.Ytebkgcnldbkgeaa
open Go.RowKit Go.Lib Go.Sort Go.Maps
set_option linter.unusedVariables false
set_option linter.unusedSimpArgs false

def askB (NS : List ByteArray) (s : ByteArray) : Bool := (NS.length == 0) || inN s NS
def keptF (f : Fl) : Fl := { f with kept := f.b.length }
def syncG (NS : List ByteArray) (F : List Fl) : List Fl := F.map fun f => if askB NS f.name = true then keptF f else f
def PD.syncR (p : PD) (NS : List ByteArray) : Nat × PD := p.chg (if hereB NS p.F then 0 else 3) (syncG NS p.F)
theorem syncR_nil (p : PD) : p.syncR [] = p.syncA := by
  unfold PD.syncR PD.syncA
  congr 1
  unfold syncG syncF
  refine List.map_congr_left fun f hf => ?_
  rw [if_pos (show askB [] f.name = true from rfl), if_pos]
  · rfl
  · unfold inN allN
    rw [List.any_eq_true]
    exact ⟨f.name, List.mem_map.2 ⟨f, hf, rfl⟩, by simp⟩
theorem syncR_some (p : PD) (NS : List ByteArray) (h : NS ≠ []) : p.syncR NS = p.sync NS := by
  unfold PD.syncR PD.sync
  congr 1
  unfold syncG syncF
  refine List.map_congr_left fun f hf => ?_
  have : askB NS f.name = inN f.name NS := by
    unfold askB
    have : (NS.length == 0) = false := by rw [beq_eq_false_iff_ne]; exact fun e => h (List.length_eq_zero_iff.1 e)
    rw [this, Bool.false_or]
  rw [this]
  rfl
def upF (NS : List ByteArray) (i : Nat) (F : List Fl) : List Fl := syncG NS (F.take i) ++ F.drop i
theorem up_zero (NS : List ByteArray) (F : List Fl) : upF NS 0 F = F := rfl
theorem up_all (NS : List ByteArray) (F : List Fl) : upF NS F.length F = syncG NS F := by unfold upF; rw [List.take_length, List.drop_length, List.append_nil]
theorem syncG_len (NS : List ByteArray) (F : List Fl) : (syncG NS F).length = F.length := by unfold syncG; rw [List.length_map]
theorem up_len (NS : List ByteArray) (i : Nat) (F : List Fl) : (upF NS i F).length = F.length := by unfold upF; rw [List.length_append, syncG_len, List.length_take, List.length_drop]; omega
theorem up_at (NS : List ByteArray) (i : Nat) (F : List Fl) (hi : i < F.length) : (upF NS i F).getD i default = F.getD i default := by
  unfold upF
  rw [List.getD_eq_getElem?_getD, List.getElem?_append_right (by rw [syncG_len, List.length_take]; omega), syncG_len, List.length_take, Nat.min_eq_left (by omega), Nat.sub_self, List.getElem?_drop, Nat.add_zero, ← List.getD_eq_getElem?_getD]
theorem up_step (NS : List ByteArray) (i : Nat) (F : List Fl) (hi : i < F.length) : upF NS (i + 1) F = if askB NS (F.getD i default).name = true then (upF NS i F).set i (keptF (F.getD i default)) else upF NS i F := by
  have e1 : syncG NS (F.take (i + 1)) = syncG NS (F.take i) ++ [if askB NS (F.getD i default).name = true then keptF (F.getD i default) else F.getD i default] := by
    unfold syncG
    rw [List.take_succ_eq_append_getElem hi, List.map_append, List.getD_eq_getElem?_getD, List.getElem?_eq_getElem hi]
    rfl
  unfold upF
  rw [e1, List.append_assoc]
  have hl : (syncG NS (F.take i)).length = i := by rw [syncG_len, List.length_take]; omega
  rw [drop_getD F i hi, List.set_append_right _ _ (by omega), hl, Nat.sub_self]
  split <;> rfl
theorem ask_step (NS : List ByteArray) (s : ByteArray) (j : Nat) (hj : j < NS.length) : ((NS.length == 0) || inN s (NS.take (j + 1))) = (((NS.length == 0) || inN s (NS.take j)) || decide (s = NS.getD j ⟨#[]⟩)) := by
  unfold inN
  rw [List.take_succ_eq_append_getElem hj, List.any_append, List.getD_eq_getElem?_getD, List.getElem?_eq_getElem hj]
  simp only [List.any_cons, List.any_nil, Bool.or_false, Option.getD_some, Bool.or_assoc]
set_option maxRecDepth 100000 in
set_option maxHeartbeats 8000000 in
theorem rsync_any (base r : Nat) (v : Value) (p : PD) (A1 : Option Addr) (n c1 : Nat) (NS : List ByteArray) (w : World) (h : Rk w base r v p) (hp : p.Ok) (hb : base ≤ w.heap.size) (hn : n ≤ 1000000) (hN : Nms w (rfoot r v) A1 n NS) :
    Calls Try.prog 42 #[.pointer (some ⟨r, 0, none⟩), .slice A1 n c1] w (RAns base r w v (p.syncR NS)) := by
  obtain ⟨X, hX⟩ : ∃ X : Ending → World → Prop, RAns base r w v (p.syncR NS) = X := ⟨_, rfl⟩
  have HX9 : Hid (p.burnt = true → X (.returned (.int .i64 9)) w) := fun h9 => by rw [← hX]; unfold RAns PD.syncR; rw [chg_gone h9]; exact ⟨rfl, v, RT.refl h⟩
  have HX3 : Hid (p.burnt = false → hereB NS p.F = false → X (.returned (.int .i64 3)) w) := fun h9 hg => by
    rw [← hX]; unfold RAns PD.syncR; rw [hg]; rw [show (if false = true then 0 else 3) = 3 from rfl, chg_err h9 (by decide)]; exact ⟨rfl, v, RT.refl h⟩
  have HXY : Hid (p.burnt = false → hereB NS p.F = true → ∀ v' w', RT base r w w' v v' (PD.burn { p with F := syncG NS p.F }) → X (.returned (.int .i64 0)) w') := fun h9 hg v' w' h1 => by
    rw [← hX]; unfold RAns PD.syncR; rw [hg]; rw [show (if true = true then 0 else 3) = 0 from rfl, chg_ok h9]; exact ⟨rfl, v', h1⟩
  rw [hX]
  clear hX
  have c3 := h.c3
  cases hbu : p.burnt with
  | true =>
    have HE := Lib.hid (HX9.out hbu)
    rw [hbu] at c3
    clear HX3 HXY hbu
    go_enter Try.func42, Try.ntmps42
    go_wp2_with fail
    first
      | exact HE.out
      | (go_ret; exact HE.out)
  | false =>
    have HX3 := Lib.hid (HX3.out hbu)
    have HXY := Lib.hid (HXY.out hbu)
    rw [hbu] at c3
    have HAT : Hid (∀ s, Calls Try.prog 62 #[.pointer (some ⟨r, 0, none⟩), .string s] w fun e w' => ∃ x, e = .returned (.int .i64 x) ∧ AtP p.F s x ∧ w' = w) := fun s => rat_any base r v p s w h hp
    have HN := Lib.hid hN
    have hlen := hN.len
    have hl := hp.len
    obtain ⟨A, c, rfl, hc, hcm, hF⟩ := Ths.of_row h.row rfl
    have HH := Lib.hid h
    have HBU := Lib.hid hbu
    have HOK := Lib.hid hp
    have HBB := Lib.hid hb
    have HHB : Hid ((∀ j, j < n → (getT Fl.key p.F (NS.getD j ⟨#[]⟩).data.toList).isSome = true) → hereB NS p.F = true) := fun ha => by
      unfold hereB
      rw [List.all_eq_true]
      intro s hs
      obtain ⟨j, hj, rfl⟩ := List.mem_iff_getElem.1 hs
      have h1 := ha j (by omega)
      rw [List.getD_eq_getElem?_getD, List.getElem?_eq_getElem hj] at h1
      exact h1
    have HHN : Hid (∀ j, j < n → getT Fl.key p.F (NS.getD j ⟨#[]⟩).data.toList = none → hereB NS p.F = false) := fun j hj hg => by
      unfold hereB
      rw [List.all_eq_false]
      refine ⟨NS.getD j ⟨#[]⟩, ?_, by rw [hg]; simp⟩
      rw [List.getD_eq_getElem?_getD, List.getElem?_eq_getElem (by omega)]
      exact List.getElem_mem _
    obtain ⟨k, hk⟩ : ∃ k, p.F.length = k := ⟨_, rfl⟩
    have HK := Lib.hid hk
    clear h hp hN hF hbu hb
    rw [hk] at hc hl
    clear hk
    go_enter Try.func42, Try.ntmps42
    go_wp2_with fail
    go_loopw [17] (fun iv wr => ∃ j : Nat, j ≤ n ∧ iv = .int .i64 j ∧ wr = w ∧ Hid (∀ i, i < j → (getT Fl.key p.F (NS.getD i ⟨#[]⟩).data.toList).isSome = true)) (fun iv _ => n - (RowKit.intOf iv).toNat)
    case atStart => exact ⟨0, by omega, rfl, rfl, fun j hj => by omega⟩
    case round =>
      obtain ⟨j, hj, rfl, hwr, HALL⟩ := hrel
      have hwr' := hwr.symm
      subst hwr'
      by_cases hlt : j < n
      · have hjz : (j : Int) < (n : Int) := by omega
        obtain ⟨q, hA, hpb, hpn, hcn, hsz⟩ := HN.out.row j hlt
        subst hA
        obtain ⟨s, hs⟩ : ∃ s, NS.getD j ⟨#[]⟩ = s := ⟨_, rfl⟩
        rw [hs] at hcn
        have HS := Lib.hid hs
        have HATS := Lib.hid (HAT.out s)
        clear hs hpn hsz
        cases hg : getT Fl.key p.F s.data.toList with
        | none =>
          have HATN : Hid (Calls Try.prog 62 #[.pointer (some ⟨r, 0, none⟩), .string s] w fun e w' => e = .returned (.int .i64 (-1)) ∧ w' = w) := HATS.out.mono fun e w' hh => by
            obtain ⟨x, he, hx, hw⟩ := hh
            unfold AtP at hx
            rw [hg] at hx
            exact ⟨by rw [he, hx], hw⟩
          have HE := Lib.hid (HX3.out (HHN.out j hlt (by rw [HS.out]; exact hg)))
          clear hg
          go_wp2_with (go_at_call 62; (with_reducible refine HATN.out.mono ?_); rintro e w1 ⟨rfl, hw1⟩; have hw1' := hw1.symm; subst hw1')
          first
            | exact HE.out
            | (go_ret; exact HE.out)
        | some f =>
          have HATN : Hid (Calls Try.prog 62 #[.pointer (some ⟨r, 0, none⟩), .string s] w fun e w' => ∃ i : Nat, e = .returned (.int .i64 (i : Int)) ∧ w' = w) := HATS.out.mono fun e w' hh => by
            obtain ⟨x, he, hx, hw⟩ := hh
            unfold AtP at hx
            rw [hg] at hx
            obtain ⟨i, h1, h2, h3⟩ := hx
            exact ⟨i, by rw [he, h3], hw⟩
          have HG := Lib.hid hg
          clear hg
          go_wp2_with (go_at_call 62; (with_reducible refine HATN.out.mono ?_); rintro e w1 ⟨i, rfl, hw1⟩; have hw1' := hw1.symm; subst hw1'; have d3 : decide ((i : Int) < 0) = false := (by rw [decide_eq_false_iff_not]; omega))
          go_roundw
          case rel =>
            refine ⟨j + 1, by omega, by go_num, (by first | rfl | trivial), fun i hi => ?_⟩
            by_cases e : i < j
            · exact HALL.out i e
            · obtain rfl : i = j := by omega
              rw [HS.out, HG.out]
              rfl
          case measure => simp [RowKit.intOf]; omega
      · have d8 : decide ((j : Int) < (n : Int)) = false := by rw [decide_eq_false_iff_not]; omega
        have HAB := Lib.hid (HHB.out (fun i hi => HALL.out i (by omega)))
        have HXE := Lib.hid (HXY.out HAB.out)
        have y1 := HH.out.c1
        rw [HK.out] at y1
        clear HALL HX3 HX9 HXY HHB HHN HAT
        go_wp2_with fail
        clear y1 c3
        have HUL : Hid (∀ i, i < k → (upF NS i p.F).length = k ∧ (upF NS i p.F).getD i default = p.F.getD i default) := fun i hi => ⟨by rw [up_len, HK.out], up_at NS i p.F (by rw [HK.out]; exact hi)⟩
        have HUS : Hid (∀ i, i < k → upF NS (i + 1) p.F = if askB NS (p.F.getD i default).name = true then (upF NS i p.F).set i (keptF (p.F.getD i default)) else upF NS i p.F) := fun i hi => up_step NS i p.F (by rw [HK.out]; exact hi)
        have HUA : Hid (upF NS k p.F = syncG NS p.F) := by show _ = _; rw [← HK.out]; exact up_all NS p.F
        have hwq : ∃ wq, wq = w := ⟨_, rfl⟩
        go_loopw [31] (fun iv wr => ∃ i : Nat, i ≤ k ∧ iv = .int .i64 i ∧ Hid (RT base r w wr (.slice A k c) (.slice A k c) { p with F := upF NS i p.F })) (fun iv _ => k - (RowKit.intOf iv).toNat)
        case atStart => exact ⟨0, by omega, rfl, by have := RT.refl HH.out; rw [HK.out] at this; exact this⟩
        case round =>
          obtain ⟨i, hi, rfl, HT⟩ := hrel
          by_cases hit : i < k
          · have hiz : (i : Int) < (k : Int) := by omega
            obtain ⟨hul, hug⟩ := HUL.out i hit
            have hus := HUS.out i hit
            obtain ⟨A', c', e', _, _, hF'⟩ := Ths.of_row HT.out.rk.row rfl
            have hul' : ({ p with F := upF NS i p.F } : PD).F.length = k := hul
            rw [hul'] at e'
            injection e' with e1 e2 e3
            subst e1
            subst e3
            obtain ⟨q, hq, _, s0, s1, s2⟩ := Fs.row hF' (k := i) (by rw [hul']; exact hit)
            obtain ⟨q2, hq2, z2, ht2⟩ := HT.out.rk.elem (i := i) (j := 2) (f' := keptF (p.F.getD i default)) (u := .int .i64 ((bst (p.F.getD i default).b).size : Int)) hul' hit (by omega) (by show _ = (((upF NS i p.F).getD i default).cells).set 2 _; rw [hug, bst_size]; rfl)
            rw [hq] at hq2
            injection hq2 with hq2
            subst hq2
            have s0' : wr.cell? (q.add (i * 3)) = some (.string ((upF NS i p.F).getD i default).name) := s0
            have s1' : wr.cell? ⟨(q.add (i * 3)).block, (q.add (i * 3)).off + 1, none⟩ = some (.string (bst ((upF NS i p.F).getD i default).b)) := s1
            have s2' : wr.cell? ⟨(q.add (i * 3)).block, (q.add (i * 3)).off + 2, none⟩ = some (.int .i64 (((upF NS i p.F).getD i default).kept : Int)) := s2
            rw [hug] at s0' s1' s2'
            subst hq
            have y1 : wr.cell? ⟨r, 1, none⟩ = some (.slice (some q) k c) := HT.out.rk.c1
            have HNW : Hid (∀ j, j < n → ∃ pn, A1 = some pn ∧ wr.cell? (pn.add j) = some (.string (NS.getD j ⟨#[]⟩))) := fun j hj => by
              obtain ⟨pn, e, a1, a2, a3, _⟩ := HN.out.row j hj
              rw [HK.out] at a2
              have a5 : wr.heap[pn.block]? = w.heap[pn.block]? := HT.out.tu.block _ a1 a2
              exact ⟨pn, e, (World.cell?_of_block (a := pn.add j) (by rw [add_block]; exact a5)).trans a3⟩
            have HT2 : Hid (askB NS (p.F.getD i default).name = true → RT base r w (wr.setCell ⟨(q.add (i * 3)).block, (q.add (i * 3)).off + 2, none⟩ (.int .i64 ((bst (p.F.getD i default).b).size : Int))) (.slice (some q) k c) (.slice (some q) k c) { p with F := upF NS (i + 1) p.F }) := fun ha => by
              rw [hus, if_pos ha]
              exact HT.out.trans ht2
            have HT3 : Hid (askB NS (p.F.getD i default).name = false → upF NS (i + 1) p.F = upF NS i p.F) := fun ha => by rw [hus, if_neg (by rw [ha]; simp)]
            obtain ⟨nm, hnm⟩ : ∃ x, (p.F.getD i default).name = x := ⟨_, rfl⟩
            obtain ⟨bf, hbf⟩ : ∃ x, bst (p.F.getD i default).b = x := ⟨_, rfl⟩
            rw [hnm] at s0' HT2 HT3
            rw [hbf] at s1' HT2
            obtain ⟨b0, hb0⟩ : ∃ b0, ((n : Int) == 0) = b0 := ⟨_, rfl⟩
            have hb0' : (NS.length == 0) = b0 := by
              rw [← hb0, hlen, Bool.eq_iff_iff]
              simp
            obtain ⟨AK, hAK⟩ : ∃ AK : Nat → Bool, ∀ j, AK j = ((NS.length == 0) || inN nm (NS.take j)) := ⟨_, fun _ => rfl⟩
            have HA0 : Hid (AK 0 = b0) := by show _ = _; rw [hAK, List.take_zero, hb0']; show (b0 || false) = b0; simp
            have HAS : Hid (∀ j, j < n → AK (j + 1) = (AK j || decide (nm = NS.getD j ⟨#[]⟩))) := fun j hj => by rw [hAK, hAK]; exact ask_step NS nm j (by omega)
            have HAE : Hid (AK n = askB NS nm) := by show _ = _; rw [hAK]; unfold askB; rw [List.take_of_length_le (by omega)]
            clear hb0' hAK hnm hbf ht2 s0 s1 s2 hF' hus hul hug hul'
            go_wp2_with fail
            generalize hwx : wr = wx at *
            clear hwx
            go_loopw [8, 39] (fun o8 jv ws => ∃ j : Nat, j ≤ n ∧ jv = .int .i64 j ∧ o8 = .bool (AK j) ∧ ws = wx) (fun _ jv _ => n - (RowKit.intOf jv).toNat)
            case atStart => exact ⟨0, by omega, rfl, by rw [HA0.out], rfl⟩
            case round =>
              obtain ⟨j, hj, rfl, rfl, hwr⟩ := hrel
              have hwr' := hwr.symm
              subst hwr'
              by_cases hjt : j < n
              · have hjz : (j : Int) < (n : Int) := by omega
                obtain ⟨pn, hA, hcn⟩ := HNW.out j hjt
                subst hA
                have HSJ := Lib.hid (HAS.out j hjt)
                obtain ⟨s, hs⟩ : ∃ s, NS.getD j ⟨#[]⟩ = s := ⟨_, rfl⟩
                rw [hs] at hcn HSJ
                clear hs
                cases hak : AK j with
                | true =>
                  go_wp2_with fail
                  go_roundw
                  case rel => exact ⟨j + 1, by omega, by go_num, by rw [HSJ.out, hak]; rfl, (by first | rfl | trivial)⟩
                  case measure => simp [RowKit.intOf]; omega
                | false =>
                  by_cases he : s = nm
                  · have e1 : (s.toList == nm.toList) = true := by rw [he]; simp
                    have e3 : decide (nm = s) = true := decide_eq_true he.symm
                    have HR : Hid (AK (j + 1) = true) := by show _ = _; rw [HSJ.out, e3]; simp
                    clear he e3
                    go_wp2_with fail
                    go_roundw
                    case rel => exact ⟨j + 1, by omega, by go_num, by rw [HR.out], (by first | rfl | trivial)⟩
                    case measure => simp [RowKit.intOf]; omega
                  · have e1 : (s.toList == nm.toList) = false := by rw [beq_eq_false_iff_ne]; exact fun e => he (str_eq.1 e)
                    have e3 : decide (nm = s) = false := decide_eq_false fun e => he e.symm
                    have HR : Hid (AK (j + 1) = false) := by show _ = _; rw [HSJ.out, e3, hak]; rfl
                    clear he e3
                    go_wp2_with fail
                    go_roundw
                    case rel => exact ⟨j + 1, by omega, by go_num, by rw [HR.out], (by first | rfl | trivial)⟩
                    case measure => simp [RowKit.intOf]; omega
              · have d9 : decide ((j : Int) < (n : Int)) = false := by rw [decide_eq_false_iff_not]; omega
                obtain rfl : j = n := by omega
                cases hak : AK j with
                | true =>
                  have HF2 := Lib.hid (HT2.out (by rw [← HAE.out]; exact hak))
                  clear HT3 HT2 hak
                  go_upto_region 19 with fail
                  go_still_tail 16, (by kernel_rfl)
                  change wpList _ _ _ _ _ wx.drew
                  go_wp2_with fail
                  go_roundw
                  case rel =>
                    exact ⟨i + 1, by omega, by go_num, HF2.out.below_ ((Below.refl _ _).drew)⟩
                  case measure => simp [RowKit.intOf]; omega
                | false =>
                  have HF2 := Lib.hid (HT3.out (by rw [← HAE.out]; exact hak))
                  clear HT3 HT2 hak
                  go_wp2_with fail
                  go_roundw
                  case rel =>
                    exact ⟨i + 1, by omega, by go_num, by rw [HF2.out]; exact HT.out⟩
                  case measure => simp [RowKit.intOf]; omega
          · have d9 : decide ((i : Int) < (k : Int)) = false := by rw [decide_eq_false_iff_not]; omega
            obtain rfl : i = k := by omega
            have HDN : Hid (Calls Try.prog 64 #[.pointer (some ⟨r, 0, none⟩)] wr fun e w' => e = .returned (.int .i64 0) ∧ RT base r w w' (.slice A i c) (.slice A i c) (PD.burn { p with F := syncG NS p.F })) := by
              have ht := HT.out
              rw [HUA.out] at ht
              exact (rdone_any base r _ _ wr ht.rk HOK.out.l1 HOK.out.l2 HBU.out).mono fun e w' hh => ⟨hh.1, ht.trans hh.2⟩
            have HXF : Hid (∀ w', RT base r w w' (.slice A i c) (.slice A i c) (PD.burn { p with F := syncG NS p.F }) → X (.returned (.int .i64 0)) w') := fun w' h1 => HXE.out (.slice A i c) w' (by rw [HK.out]; exact h1)
            generalize (PD.burn { p with F := syncG NS p.F }) = p2 at *
            go_wp2_with (go_at_call 64; (with_reducible refine HDN.out.mono ?_); rintro e w4 ⟨rfl, ht4⟩)
            first
              | exact HXF.out _ ht4
              | (go_ret; exact HXF.out _ ht4)
end Go.Proofs.Ytebkgcnldbkgeaa
