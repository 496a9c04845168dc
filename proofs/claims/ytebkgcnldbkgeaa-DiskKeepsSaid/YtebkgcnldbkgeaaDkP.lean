/-
  What Sync does with files that are named.
-/
import Derived.Test.YtebkgcnldbkgeaaDkM
namespace Go.Proofs.Ytebkgcnldbkgeaa
open Go.RowKit Go.Lib Go.Sort Go.Maps
set_option linter.unusedVariables false
set_option linter.unusedSimpArgs false

/-- names in memory, none of which lies in a disk -/
structure Nms (w : World) (F : List Nat) (A : Option Addr) (n : Nat) (NS : List ByteArray) : Prop where
  len : NS.length = n
  row : ∀ k, k < n → ∃ p, A = some p ∧ p.block < w.heap.size ∧ p.block ∉ F ∧ w.cell? (p.add k) = some (.string (NS.getD k ⟨#[]⟩)) ∧ (NS.getD k ⟨#[]⟩).size ≤ 1099511627776
/-- the files of these names have all their bytes kept -/
def inN (s : ByteArray) (NS : List ByteArray) : Bool := NS.any fun x => decide (s = x)
def syncF (NS : List ByteArray) (F : List Fl) : List Fl := F.map fun f => if inN f.name NS = true then { f with kept := f.b.length } else f
def hereB (NS : List ByteArray) (F : List Fl) : Bool := NS.all fun s => (getT Fl.key F s.data.toList).isSome
theorem syncF_names (NS : List ByteArray) (F : List Fl) : (syncF NS F).map Fl.key = F.map Fl.key := by
  unfold syncF
  rw [List.map_map]
  refine List.map_congr_left fun f _ => ?_
  simp only [Function.comp]
  split <;> rfl
theorem get_some_keys {F F' : List Fl} (h : F'.map Fl.key = F.map Fl.key) (k : List UInt8) : (getT Fl.key F' k).isSome = (getT Fl.key F k).isSome := by
  have e : ∀ G : List Fl, (getT Fl.key G k).isSome = (G.map Fl.key).any fun x => decide (x = k) := fun G => by
    unfold getT
    induction G with
    | nil => rfl
    | cons y l ih =>
      rw [List.find?_cons, List.map_cons, List.any_cons, ← ih]
      cases decide (y.key = k) <;> simp
  rw [e, e, h]
theorem syncF_nil (F : List Fl) : syncF [] F = F := by
  unfold syncF
  have : ∀ f ∈ F, (if inN f.name [] = true then { f with kept := f.b.length } else f) = id f := fun f _ => by rw [if_neg (by simp [inN])]; rfl
  rw [List.map_congr_left this, List.map_id]
theorem syncF_add (NS : List ByteArray) (s : ByteArray) (F : List Fl) : syncF [s] (syncF NS F) = syncF (NS ++ [s]) F := by
  unfold syncF
  rw [List.map_map]
  refine List.map_congr_left fun f _ => ?_
  simp only [Function.comp]
  have e : inN f.name (NS ++ [s]) = (inN f.name NS || inN f.name [s]) := by unfold inN; rw [List.any_append]
  rw [e]
  cases h1 : inN f.name NS with
  | true =>
    rw [if_pos rfl, Bool.true_or, if_pos rfl]
    split <;> rfl
  | false => rw [Bool.false_or, if_neg (show ¬ (false = true) by decide)]
section
variable {w w' : World} {base d : Nat} {D : Dsk}
theorem synced (h : Dk w base d D) {f : Hd} (hf : f ∈ D.H) :
    ∃ D', Then base d w (w.setCell ⟨f.fb, 1, none⟩ (.int .i64 (f.b.length : Int))) D D' ∧ filesD D' = syncF [f.name] (filesD D) ∧ SameD D D' := by
  have hfl := h.fl f hf
  have hu : ∀ y ∈ D.H, y.fb = f.fb → y = f := fun y hy e => h.fb_inj hy hf e
  have hne : ∀ g, f.v.ownBlock = some g → g ≠ f.fb := fun g hg e => by
    obtain ⟨cur, hc⟩ := row_has hfl.row hg
    rw [e, hfl.blk] at hc
    injection hc with hc
    injection hc with _ hc
    exact absurd hc (by decide)
  have hb1 : (w.setCell ⟨f.fb, 1, none⟩ (.int .i64 (f.b.length : Int))).heap[f.fb]? = some (.cells #[f.v, .int .i64 (f.b.length : Int)] 64 (0, 0)) := by rw [heap_setCell_same w _ 1 _ _ _ hfl.blk]; rfl
  have hk0 : ∀ k, k ≠ f.fb → (w.setCell ⟨f.fb, 1, none⟩ (.int .i64 (f.b.length : Int))).heap[k]? = w.heap[k]? := fun k hk => Below.heap_setCell w _ _ k (fun e => hk e)
  have hnew : FileAt (w.setCell ⟨f.fb, 1, none⟩ (.int .i64 (f.b.length : Int))) base { f with kept := f.b.length } :=
    ⟨hfl.bf, hb1, row_same hfl.row fun g hg => hk0 g (hne g hg), Nat.le_refl _, hfl.name⟩
  have hdk := h.upd (f' := { f with kept := f.b.length }) hf rfl rfl hnew (.inr (.inl rfl)) (fun k _ h1 _ => hk0 k h1) (by have := h.tot; show _ + f.b.length ≤ _; omega)
  refine ⟨_, ⟨hdk, Turn.of_grown (grown_setD w f.fb 1 _) (foot_fl hf (by simp [Hd.foot])), fun k hk => (upd_foot (w := w) (f' := { f with kept := f.b.length }) hf rfl (.inr (.inl rfl)) k hk)⟩, ?_, ⟨rfl, rfl, rfl⟩⟩
  show (D.H.map _).map Hd.f = syncF _ (D.H.map Hd.f)
  unfold syncF
  rw [List.map_map, List.map_map]
  refine List.map_congr_left fun y hy => ?_
  simp only [Function.comp, repl]
  by_cases e : y.fb = f.fb
  · have := hu y hy e
    subst this
    rw [if_pos rfl, if_pos (by simp [Hd.f, inN])]
    rfl
  · rw [if_neg e, if_neg]
    intro e2
    have e3 : y.key = f.key := by unfold Hd.key; rw [show y.name = f.name from of_decide_eq_true (by simp only [Hd.f, inN, List.any_cons, List.any_nil, Bool.or_false] at e2; exact e2)]
    exact e (by rw [rise_inj Hd.key h.rise hy hf e3])
end
set_option maxRecDepth 100000 in
set_option maxHeartbeats 8000000 in
theorem sync1_named (base d nb db : Nat) (D : Dsk) (A : Option Addr) (n c : Nat) (NS : List ByteArray) (w : World) (h : Dk w base d D) (hb : base ≤ w.heap.size) (hn0 : 0 < n) (hn : n ≤ maxLen)
    (x0 : w.cell? ⟨nb, 0, none⟩ = some (.slice A n c)) (x1 : w.cell? ⟨db, 0, none⟩ = some (.pointer (some ⟨d, 0, none⟩))) (hnb : nb ∉ D.foot d) (hdb : db ∉ D.foot d) (hN : Nms w (D.foot d) A n NS) :
    Calls Try.prog 39 #[.pointer (some ⟨nb, 0, none⟩), .pointer (some ⟨db, 0, none⟩)] w (Ans base d w D (fun er D1 => er = (if hereB NS (filesD D) then 0 else 3) ∧ filesD D1 = if er = 0 then syncF NS (filesD D) else filesD D)) := by
  obtain ⟨X, hX⟩ : ∃ X : Ending → World → Prop, (Ans base d w D (fun er D1 => er = (if hereB NS (filesD D) then 0 else 3) ∧ filesD D1 = if er = 0 then syncF NS (filesD D) else filesD D)) = X := ⟨_, rfl⟩
  have HX3 : Hid (hereB NS (filesD D) = false → X (.returned (.int .i64 3)) w) := fun h3 => by rw [← hX]; exact ⟨3, D, rfl, Then.refl h, ⟨rfl, rfl, rfl⟩, by rw [h3]; rfl, by rw [if_neg (by decide)]⟩
  have HXY : Hid (∀ D' w', hereB NS (filesD D) = true → Then base d w w' D D' → SameD D D' → filesD D' = syncF NS (filesD D) → X (.returned (.int .i64 0)) w') := fun D' w' h3 h4 h5 h6 => by rw [← hX]; exact ⟨0, D', rfl, h4, h5, by rw [h3]; rfl, by rw [if_pos rfl]; exact h6⟩
  rw [hX]
  clear hX
  have HGE : Hid (∀ j, j < n → (D.at_ (NS.getD j ⟨#[]⟩)).isSome = (getT Fl.key (filesD D) (NS.getD j ⟨#[]⟩).data.toList).isSome) := fun j _ => by rw [get_files]; unfold Dsk.at_; rw [Option.isSome_map]
  have HD := Lib.hid h
  have HN := Lib.hid hN
  have hlen := hN.len
  have HNB := Lib.hid hnb
  have HDB := Lib.hid hdb
  have hnl : nb < w.heap.size := block_lt_of_cell x0
  have hdbl : db < w.heap.size := block_lt_of_cell x1
  have HX0 : Hid (w.cell? ⟨nb, 0, none⟩ = some (.slice A n c)) := x0
  have HX1 : Hid (w.cell? ⟨db, 0, none⟩ = some (.pointer (some ⟨d, 0, none⟩))) := x1
  unfold maxLen at hn
  have hn1 : ((n : Int) == 0) = false := by rw [beq_eq_false_iff_ne]; omega
  clear h hN hnb hdb
  go_enter Try.func39, Try.ntmps39
  go_wp2_with fail
  go_loopw [15] (fun iv wr => ∃ k : Nat, k ≤ n ∧ iv = .int .i64 k ∧ wr = w ∧ Hid (∀ j, j < k → (D.at_ (NS.getD j ⟨#[]⟩)).isSome = true)) (fun iv _ => n - (RowKit.intOf iv).toNat)
  case atStart => exact ⟨0, by omega, rfl, rfl, fun j hj => by omega⟩
  case round =>
    obtain ⟨k, hk, rfl, hwr, HALL⟩ := hrel
    have hwr' := hwr.symm
    subst hwr'
    by_cases hlt : k < n
    · have hkz : (k : Int) < (n : Int) := by omega
      obtain ⟨p, hA, hpb, hpn, hcn, hsz⟩ := HN.out.row k hlt
      subst hA
      obtain ⟨s, hs⟩ : ∃ s, NS.getD k ⟨#[]⟩ = s := ⟨_, rfl⟩
      rw [hs] at hcn hsz
      have HS := Lib.hid hs
      have HFI := Lib.hid (file_any base d D s w HD.out (by unfold maxLen; omega))
      clear hs hpn hsz
      cases hat : D.at_ s with
      | none =>
        rw [hat] at HFI
        have HAT := Lib.hid hat
        unfold ptrO at HFI
        simp only at HFI
        clear hat
        go_wp2_with (go_at_call 28; (with_reducible refine HFI.out.mono ?_); rintro e w4 ⟨rfl, hw4⟩; have hw4' := hw4.symm; subst hw4')
        have HBB : Hid (hereB NS (filesD D) = false) := by
          unfold hereB
          rw [Hid, List.all_eq_false]
          refine ⟨NS.getD k ⟨#[]⟩, ?_, ?_⟩
          · rw [List.getD_eq_getElem?_getD, List.getElem?_eq_getElem (by omega)]
            exact List.getElem_mem _
          · rw [← HGE.out k hlt, HS.out, HAT.out]
            simp
        first
          | exact HX3.out HBB.out
          | (go_ret; exact HX3.out HBB.out)
      | some f =>
        rw [hat] at HFI
        have HAT := Lib.hid hat
        unfold ptrO Hd.ptr at HFI
        simp only at HFI
        clear hat
        go_wp2_with (go_at_call 28; (with_reducible refine HFI.out.mono ?_); rintro e w4 ⟨rfl, hw4⟩; have hw4' := hw4.symm; subst hw4')
        go_roundw
        case rel =>
          refine ⟨k + 1, by omega, by go_num, (by first | rfl | trivial), fun j hj => ?_⟩
          by_cases e : j < k
          · exact HALL.out j e
          · have : j = k := by omega
            subst this
            rw [HS.out, HAT.out]
            rfl
        case measure => simp [RowKit.intOf]; omega
    · have d8 : decide ((k : Int) < (n : Int)) = false := by rw [decide_eq_false_iff_not]; omega
      have HAL2 : Hid (∀ j, j < n → (D.at_ (NS.getD j ⟨#[]⟩)).isSome = true) := fun j hj => HALL.out j (by omega)
      have HBB : Hid (hereB NS (filesD D) = true) := by
        unfold hereB
        rw [Hid, List.all_eq_true]
        intro s hs
        obtain ⟨j, hj, rfl⟩ := List.mem_iff_getElem.1 hs
        have h1 := HAL2.out j (by omega)
        rw [HGE.out j (by omega)] at h1
        rw [List.getD_eq_getElem?_getD, List.getElem?_eq_getElem hj] at h1
        exact h1
      clear HALL
      go_wp2_with fail
      go_loopw [26] (fun iv wr => ∃ k : Nat, k ≤ n ∧ iv = .int .i64 k ∧ ∃ Dk : Dsk, Hid (Then base d w wr D Dk ∧ filesD Dk = syncF (NS.take k) (filesD D) ∧ SameD D Dk)) (fun iv _ => n - (RowKit.intOf iv).toNat)
      case atStart => exact ⟨0, by omega, rfl, D, Then.refl HD.out, by rw [List.take_zero, syncF_nil], ⟨rfl, rfl, rfl⟩⟩
      case round =>
        obtain ⟨k, hk, rfl, Dk, HK⟩ := hrel
        have y0 : wr.cell? ⟨nb, 0, none⟩ = some (.slice A n c) := HK.out.1.cell HX0.out hnl HNB.out
        have y1 : wr.cell? ⟨db, 0, none⟩ = some (.pointer (some ⟨d, 0, none⟩)) := HK.out.1.cell HX1.out hdbl HDB.out
        by_cases hlt : k < n
        · have hkz : (k : Int) < (n : Int) := by omega
          obtain ⟨p, hA, hpb, hpn, hcn, hsz⟩ := HN.out.row k hlt
          subst hA
          have hcn := (World.cell?_of_block (a := p.add k) (HK.out.1.block (by rw [add_block]; exact hpb) (by rw [add_block]; exact hpn))).trans hcn
          obtain ⟨s, hs⟩ : ∃ s, NS.getD k ⟨#[]⟩ = s := ⟨_, rfl⟩
          have HTK : Hid (NS.take (k + 1) = NS.take k ++ [s]) := by
            rw [Hid, List.take_succ_eq_append_getElem (by omega), ← hs, List.getD_eq_getElem?_getD, List.getElem?_eq_getElem (by omega)]
            rfl
          have HFI := Lib.hid (file_any base d Dk s wr HK.out.1.dk (by rw [← hs]; unfold maxLen; omega))
          have h1 : (Dk.at_ s).isSome = true := by
            have h2 := HAL2.out k hlt
            rw [HGE.out k hlt, hs] at h2
            rw [← get_some_keys (F' := filesD Dk) (by rw [HK.out.2.1, syncF_names]), get_files, Option.isSome_map] at h2
            exact h2
          rw [hs] at hcn
          obtain ⟨f, hf⟩ := Option.isSome_iff_exists.1 h1
          rw [hf] at HFI
          unfold ptrO Hd.ptr at HFI
          simp only at HFI
          have hfm := at_mem hf
          have hfl := HK.out.1.dk.fl f hfm
          obtain ⟨Av, cv, hve, _, _⟩ := slice_of_row hfl.row
          have hblk := hfl.blk
          rw [hve] at hblk
          have HSY := Lib.hid (synced HK.out.1.dk hfm)
          rw [at_name hf] at HSY
          obtain ⟨fb, hfb⟩ : ∃ x, f.fb = x := ⟨_, rfl⟩
          obtain ⟨bl, hbl⟩ : ∃ x, f.b.length = x := ⟨_, rfl⟩
          rw [hfb] at HFI hblk HSY
          rw [hbl] at hblk HSY
          have e0 : wr.cell? ⟨fb, 0, none⟩ = some (.slice Av bl cv) := cell_of_row _ _ 0 _ _ _ hblk
          have e1 : wr.cell? ⟨fb, 1, none⟩ = some (.int .i64 (f.kept : Int)) := cell_of_row _ _ 1 _ _ _ hblk
          have f1 : wr.frozen? ⟨fb, 1, none⟩ = false := frozen_of_row _ _ 1 _ _ hblk
          clear hs h1 hf hfm hfl hve hblk hfb hbl hsz hpn
          go_wp2_with (go_at_call 28; (with_reducible refine HFI.out.mono ?_); rintro e w4 ⟨rfl, hw4⟩; have hw4' := hw4.symm; subst hw4')
          go_roundw
          case rel =>
            obtain ⟨D', a1, a2, a3⟩ := HSY.out
            refine ⟨k + 1, by omega, by go_num, D', HK.out.1.trans a1, ?_, ⟨a3.room.trans HK.out.2.2.room, a3.set.trans HK.out.2.2.set, a3.left.trans HK.out.2.2.left⟩⟩
            rw [a2, HK.out.2.1, syncF_add, HTK.out]
          case measure => simp [RowKit.intOf]; omega
        · have d8 : decide ((k : Int) < (n : Int)) = false := by rw [decide_eq_false_iff_not]; omega
          have HFF : Hid (filesD Dk = syncF NS (filesD D)) := by
            have := HK.out.2.1
            rw [List.take_of_length_le (by omega)] at this
            exact this
          go_wp2_with fail
          first
            | exact HXY.out Dk wr HBB.out HK.out.1 HK.out.2.2 HFF.out
            | (go_ret; exact HXY.out Dk wr HBB.out HK.out.1 HK.out.2.2 HFF.out)
set_option maxRecDepth 100000 in
set_option maxHeartbeats 4000000 in
theorem sync_named (base d : Nat) (D : Dsk) (A : Option Addr) (n c : Nat) (NS : List ByteArray) (w : World) (h : Dk w base d D) (hb : base ≤ w.heap.size) (hn0 : 0 < n) (hn : n ≤ maxLen) (hN : Nms w (D.foot d) A n NS) :
    Calls Try.prog 14 #[.pointer (some ⟨d, 0, none⟩), .slice A n c] w fun e w' => ∃ (er : Nat) (D' : Dsk), e = .returned (.int .i64 (er : Int)) ∧ Then base d w w' D D' ∧ ChgP D (fun er D1 => er = (if hereB NS (filesD D) then 0 else 3) ∧ filesD D1 = if er = 0 then syncF NS (filesD D) else filesD D) er D' := by
  obtain ⟨Q, hQ⟩ : ∃ Q : Nat → Dsk → Prop, (fun er D1 => er = (if hereB NS (filesD D) then 0 else 3) ∧ filesD D1 = if er = 0 then syncF NS (filesD D) else filesD D) = Q := ⟨_, rfl⟩
  have HS1 := Lib.hid (fun nb db W a1 a2 a3 a4 a5 a6 a7 => sync1_named base d nb db D A n c NS W a1 a2 hn0 hn a3 a4 a5 a6 a7)
  rw [hQ] at HS1 ⊢
  clear hQ
  have hal := ((Below.refl w.heap.size w).alloc (Nat.le_refl _) (.cells #[.pointer (some ⟨d, 0, none⟩)] 23)).alloc (by simp) (.cells #[.slice A n c] 31)
  obtain ⟨w3, hw3⟩ : ∃ w3, (w.alloc (.cells #[.pointer (some ⟨d, 0, none⟩)] 23)).alloc (.cells #[.slice A n c] 31) = w3 := ⟨_, rfl⟩
  have hz3 : w3.heap.size = w.heap.size + 2 := by rw [← hw3]; simp
  have hb0 : w3.heap[w.heap.size]? = some (.cells #[.pointer (some ⟨d, 0, none⟩)] 23 (0, 0)) := by
    rw [← hw3, Below.heap_alloc _ _ _ (by simp)]
    exact heap_alloc_new w _
  have hb1 : w3.heap[w.heap.size + 1]? = some (.cells #[.slice A n c] 31 (0, 0)) := by
    rw [← hw3]
    have := heap_alloc_new (w.alloc (.cells #[.pointer (some ⟨d, 0, none⟩)] 23)) (.cells #[.slice A n c] 31)
    rwa [show (w.alloc (.cells #[.pointer (some ⟨d, 0, none⟩)] 23)).heap.size = w.heap.size + 1 by simp] at this
  rw [hw3] at hal
  have HW3 := Lib.hid hw3
  have HT3 := Lib.hid (Then.of_below h hal)
  have HLT := Lib.hid h.lt
  have y0 : w3.cell? ⟨w.heap.size, 0, none⟩ = some (.pointer (some ⟨d, 0, none⟩)) := cell_of_row _ _ 0 _ _ _ hb0
  have HCH := Lib.hid (change_sync base d (w.heap.size + 1) w.heap.size D Q w3 HT3.out.dk (fun W hW => by
    have k : ∀ i, i < w3.heap.size → W.heap[i]? = w3.heap[i]? := fun i hi => hW.block i hi
    refine HS1.out (w.heap.size + 1) w.heap.size W (HT3.out.dk.below hW (Nat.le_refl _)) (by have := hW.size; omega) (cell_of_row _ _ 0 _ _ _ ((k _ (by omega)).trans hb1)) (cell_of_row _ _ 0 _ _ _ ((k _ (by omega)).trans hb0)) (fun h2 => by have := HLT.out _ h2; omega) (fun h2 => by have := HLT.out _ h2; omega) ⟨hN.len, fun j hj => ?_⟩
    obtain ⟨p, e, h1, h2, h3, h4⟩ := hN.row j hj
    exact ⟨p, e, by have := hW.size; omega, h2, ((hal.trans (hW.mono (by omega))).cell (by rw [add_block]; exact h1)).trans h3, h4⟩))
  clear hw3 hal hb0 hb1 hN h HS1
  go_enter Try.func14, Try.ntmps14
  go_upto_region 1 with fail
  rw [HW3.out]
  go_wp2_with (go_at_call 38; (with_reducible refine HCH.out.mono ?_); rintro e w4 ⟨er, D4, rfl, ht4, hq4⟩)
  go_ret
  exact ⟨er, D4, rfl, HT3.out.trans ht4, hq4⟩
end Go.Proofs.Ytebkgcnldbkgeaa
