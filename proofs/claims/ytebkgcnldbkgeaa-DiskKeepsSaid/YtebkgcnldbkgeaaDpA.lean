/-
  What Sync does where no file is named.
-/
import Derived.Test.YtebkgcnldbkgeaaDkW
namespace Go.Proofs.Ytebkgcnldbkgeaa
open Go.RowKit Go.Lib Go.Sort Go.Maps
set_option linter.unusedVariables false
set_option linter.unusedSimpArgs false

/-- what a call leaves that may write one block more -/
structure ThenX (x base d : Nat) (w w' : World) (D D' : Dsk) : Prop where
  dk : Dk w' base d D'
  tu : Turn (x :: D.foot d) w w'
  ft : ∀ k ∈ D'.foot d, k ∈ D.foot d ∨ w.heap.size ≤ k
section
variable {w w' w'' : World} {x base d : Nat} {D D' D'' : Dsk}
theorem ThenX.of (h : Then base d w w' D D') : ThenX x base d w w' D D' := ⟨h.dk, h.tu.mono fun k hk => List.mem_cons_of_mem _ hk, h.ft⟩
theorem ThenX.then_ (h : ThenX x base d w w' D D') (h' : Then base d w' w'' D' D'') : ThenX x base d w w'' D D'' :=
  ⟨h'.dk, h.tu.trans h'.tu (fun k hk => (h.ft k hk).imp (fun h2 => List.mem_cons_of_mem _ h2) id), fun k hk => (h'.ft k hk).elim (h.ft k) (fun h2 => .inr (Nat.le_trans h.tu.size h2))⟩
theorem ThenX.after (h' : Then base d w w' D D') (h : ThenX x base d w' w'' D' D'') : ThenX x base d w w'' D D'' :=
  ⟨h.dk, h'.tu.mono (fun k hk => List.mem_cons_of_mem x hk) |>.trans h.tu (fun k hk => by
    rcases List.mem_cons.1 hk with rfl | hk
    · exact .inl (List.mem_cons_self ..)
    · exact (h'.ft k hk).imp (fun h2 => List.mem_cons_of_mem _ h2) id), fun k hk => (h.ft k hk).elim (h'.ft k) (fun h2 => .inr (Nat.le_trans h'.tu.size h2))⟩
/-- the block more is new -/
theorem ThenX.new_ {w0 : World} (h0 : Then base d w0 w D D) (h : ThenX x base d w w' D D') (hx : w0.heap.size ≤ x) : Then base d w0 w' D D' :=
  ⟨h.dk, h0.tu.trans h.tu (fun k hk => by
    rcases List.mem_cons.1 hk with rfl | hk
    · exact .inr hx
    · exact .inl hk), fun k hk => (h.ft k hk).imp id (fun h2 => Nat.le_trans h0.tu.size h2)⟩
end
def AnsX (x base d : Nat) (w : World) (D : Dsk) (Q : Nat → Dsk → Prop) (e : Ending) (w' : World) : Prop := ∃ (er : Nat) (D' : Dsk), e = .returned (.int .i64 (er : Int)) ∧ ThenX x base d w w' D D' ∧ SameD D D' ∧ Q er D'
set_option maxRecDepth 100000 in
set_option maxHeartbeats 2000000 in
theorem change_syncX (x base d b0 b1 : Nat) (D : Dsk) (Q : Nat → Dsk → Prop) (w : World) (h : Dk w base d D)
    (hC : ∀ W, Below w.heap.size w W → Calls Try.prog 39 #[.pointer (some ⟨b0, 0, none⟩), .pointer (some ⟨b1, 0, none⟩)] W (AnsX x base d W D Q)) :
    Calls Try.prog 38 #[.pointer (some ⟨d, 0, none⟩), .func (.func 39) #[] #[.pointer (some ⟨b0, 0, none⟩), .pointer (some ⟨b1, 0, none⟩)]] w fun e w' => ∃ (er : Nat) (D' : Dsk), e = .returned (.int .i64 (er : Int)) ∧ ThenX x base d w w' D D' ∧ ChgP D Q er D' := by
  obtain ⟨X, hX⟩ : ∃ X : Ending → World → Prop, (fun e w' => ∃ (er : Nat) (D' : Dsk), e = .returned (.int .i64 (er : Int)) ∧ ThenX x base d w w' D D' ∧ ChgP D Q er D') = X := ⟨_, rfl⟩
  have HX : Hid (∀ (er : Nat) (D' : Dsk) w', ThenX x base d w w' D D' → ChgP D Q er D' → X (.returned (.int .i64 (er : Int))) w') := fun er D' w' h1 h2 => by rw [← hX]; exact ⟨er, D', rfl, h1, h2⟩
  rw [hX]
  clear hX
  have HB := Lib.hid (burnt_any base d D w h)
  have HC := Lib.hid hC
  have HD := Lib.hid h
  clear hC h
  cases hb : burntB D with
  | true =>
    rw [hb] at HB
    have HBU := Lib.hid hb
    clear hb
    go_enter Try.func38, Try.ntmps38
    go_wp2_with (go_at_call 36; (with_reducible refine HB.out.mono ?_); rintro e w1 ⟨rfl, hb1⟩)
    first
      | exact HX.out 9 D w1 (ThenX.of (Then.of_below HD.out hb1)) (by unfold ChgP; rw [if_pos HBU.out]; exact ⟨rfl, rfl⟩)
      | (go_ret; exact HX.out 9 D w1 (ThenX.of (Then.of_below HD.out hb1)) (by unfold ChgP; rw [if_pos HBU.out]; exact ⟨rfl, rfl⟩))
  | false =>
    rw [hb] at HB
    have HBU := Lib.hid hb
    clear hb
    go_enter Try.func38, Try.ntmps38
    go_upto_region 6 with (first
      | (go_at_call 36; (with_reducible refine HB.out.mono ?_); rintro e w1 ⟨rfl, hb1⟩)
      | (go_at_call 39; (with_reducible refine (HC.out w1 hb1).mono ?_); rintro e w2 ⟨er, D2, rfl, ht2, hs2, hq2⟩))
    have HT2 := Lib.hid (ThenX.after (Then.of_below HD.out hb1) ht2)
    have HS2 := Lib.hid hs2
    have HQ2 := Lib.hid hq2
    clear ht2 hs2 hq2
    by_cases h0 : er = 0
    · subst h0
      have HBN := Lib.hid (burn_any base d D2 w2 HT2.out.dk (by rw [burnt_same HS2.out]; exact HBU.out))
      go_wp2_with (go_at_call 60; (with_reducible refine HBN.out.mono ?_); rintro e w3 ⟨rfl, hd3, ht3⟩)
      first
        | exact HX.out 0 (burnD D2) w3 (HT2.out.then_ (burn_then hd3 ht3)) (by unfold ChgP; rw [if_neg (by rw [HBU.out]; simp)]; exact ⟨D2, HS2.out, HQ2.out, by rw [if_pos rfl]⟩)
        | (go_ret; exact HX.out 0 (burnD D2) w3 (HT2.out.then_ (burn_then hd3 ht3)) (by unfold ChgP; rw [if_neg (by rw [HBU.out]; simp)]; exact ⟨D2, HS2.out, HQ2.out, by rw [if_pos rfl]⟩))
    · have en : ((er : Int) == 0) = false := by rw [beq_eq_false_iff_ne]; omega
      have HN := Lib.hid h0
      clear h0
      go_wp2_with fail
      first
        | exact HX.out er D2 w2 HT2.out (by unfold ChgP; rw [if_neg (by rw [HBU.out]; simp)]; exact ⟨D2, HS2.out, HQ2.out, by rw [if_neg HN.out]⟩)
        | (go_ret; exact HX.out er D2 w2 HT2.out (by unfold ChgP; rw [if_neg (by rw [HBU.out]; simp)]; exact ⟨D2, HS2.out, HQ2.out, by rw [if_neg HN.out]⟩))
def allN (F : List Fl) : List ByteArray := F.map Fl.name
theorem all_here {F : List Fl} (h : RiseT Fl.key F) : hereB (allN F) F = true := by
  unfold hereB
  rw [List.all_eq_true]
  intro s hs
  obtain ⟨f, hf, rfl⟩ := List.mem_map.1 hs
  have := getT_of_mem Fl.key h hf
  show (getT Fl.key F f.key).isSome = true
  rw [this]
  rfl
theorem names_files (D : Dsk) : namesD D ⟨#[]⟩ = (allN (filesD D)).map fun s => s.data.toList := by
  rw [names_all]
  unfold allN filesD
  rw [List.map_map, List.map_map]
  rfl
theorem rise_files {w : World} {base d : Nat} {D : Dsk} (h : Dk w base d D) : RiseT Fl.key (filesD D) := by
  have := h.rise
  unfold RiseT filesD at *
  rw [List.pairwise_map]
  exact this
theorem nms_all {w : World} {base d nb : Nat} {D : Dsk} {A : Option Addr} {w0 : World} (h : Dk w base d D) (hl : Lies w w.heap.size A ((namesD D ⟨#[]⟩).map encStr)) (hq : ∀ q, A = some q → w0.heap.size ≤ q.block) (hF : ∀ k ∈ D.foot d, k < w0.heap.size) : Nms w (D.foot d) A (allN (filesD D)).length (allN (filesD D)) := by
  refine ⟨rfl, fun k hk => ?_⟩
  have hk2 : k < (filesD D).length := by unfold allN at hk; rwa [List.length_map] at hk
  rw [names_files] at hl
  obtain ⟨p, e, hb, hc⟩ := hl.get k (.string ((allN (filesD D))[k]'hk)) (by rw [List.getElem?_map, List.getElem?_map, List.getElem?_eq_getElem hk]; rfl)
  refine ⟨p, e, hb, fun h2 => by have := hq p e; have := hF _ h2; omega, ?_, ?_⟩
  · rw [hc, List.getD_eq_getElem?_getD, List.getElem?_eq_getElem hk]
    rfl
  · rw [List.getD_eq_getElem?_getD, List.getElem?_eq_getElem hk]
    show ((allN (filesD D))[k]).size ≤ _
    have h3 : (allN (filesD D))[k] ∈ allN (filesD D) := List.getElem_mem _
    obtain ⟨f, hf, e2⟩ := List.mem_map.1 h3
    obtain ⟨g, hg, e3⟩ := List.mem_map.1 hf
    have := (h.fl g hg).name
    rw [← e2, ← e3]
    show g.name.size ≤ _
    omega
set_option maxRecDepth 100000 in
set_option maxHeartbeats 8000000 in
theorem sync1_all (base d nb db : Nat) (D : Dsk) (A0 : Option Addr) (c0 : Nat) (w0 : World) (h0 : Dk w0 base d D)
    (x00 : w0.cell? ⟨nb, 0, none⟩ = some (.slice A0 0 c0)) (x10 : w0.cell? ⟨db, 0, none⟩ = some (.pointer (some ⟨d, 0, none⟩))) (z0 : w0.frozen? ⟨nb, 0, none⟩ = false) (hnb : nb ∉ D.foot d) (hdb : db ∉ D.foot d) (hnd : nb ≠ db) :
    Calls Try.prog 39 #[.pointer (some ⟨nb, 0, none⟩), .pointer (some ⟨db, 0, none⟩)] w0 (AnsX nb base d w0 D (fun er D1 => er = 0 ∧ filesD D1 = syncF (allN (filesD D)) (filesD D))) := by
  obtain ⟨X, hX⟩ : ∃ X : Ending → World → Prop, (AnsX nb base d w0 D (fun er D1 => er = 0 ∧ filesD D1 = syncF (allN (filesD D)) (filesD D))) = X := ⟨_, rfl⟩
  have HX3 : Hid (hereB (allN (filesD D)) (filesD D) = false → ∀ w', X (.returned (.int .i64 3)) w') := fun h3 => by rw [all_here (rise_files h0)] at h3; cases h3
  have HXY : Hid (∀ D' w', ThenX nb base d w0 w' D D' → SameD D D' → filesD D' = syncF (allN (filesD D)) (filesD D) → X (.returned (.int .i64 0)) w') := fun D' w' h4 h5 h6 => by rw [← hX]; exact ⟨0, D', rfl, h4, h5, rfl, h6⟩
  rw [hX]
  clear hX
  have HGE : Hid (∀ j, j < (allN (filesD D)).length → (D.at_ ((allN (filesD D)).getD j ⟨#[]⟩)).isSome = (getT Fl.key (filesD D) ((allN (filesD D)).getD j ⟨#[]⟩).data.toList).isSome) := fun j _ => by rw [get_files]; unfold Dsk.at_; rw [Option.isSome_map]
  have HNA := Lib.hid (names_new base d D ⟨#[]⟩ w0 h0)
  have HD0 := Lib.hid h0
  have HNB := Lib.hid hnb
  have HDB := Lib.hid hdb
  have HND := Lib.hid hnd
  have hnl0 : nb < w0.heap.size := block_lt_of_cell x00
  have hdbl0 : db < w0.heap.size := block_lt_of_cell x10
  have hlenN : (namesD D ⟨#[]⟩).length = (allN (filesD D)).length := by rw [names_files, List.length_map]
  rw [hlenN] at HNA
  have hl128 : (allN (filesD D)).length ≤ 128 := by have := h0.len; unfold allN filesD; rw [List.length_map, List.length_map]; exact this
  clear h0 hnb hdb hnd hlenN
  have HNM : Hid (∀ W A, Below w0.heap.size w0 W → Lies W W.heap.size A ((namesD D ⟨#[]⟩).map encStr) → (∀ q, A = some q → w0.heap.size ≤ q.block) → Nms W (D.foot d) A (allN (filesD D)).length (allN (filesD D))) := fun W A hW h1 h2 => nms_all (nb := nb) (HD0.out.below hW (Nat.le_refl _)) h1 h2 HD0.out.lt
  obtain ⟨NS, hNS⟩ : ∃ x, allN (filesD D) = x := ⟨_, rfl⟩
  rw [hNS] at HX3 HXY HGE HNA HNM hl128
  have HNS := Lib.hid hNS
  clear hNS
  obtain ⟨n, hlen⟩ : ∃ n, NS.length = n := ⟨_, rfl⟩
  rw [hlen] at HGE HNA HNM hl128
  have HTX : Hid (∀ w1 A c, Below w0.heap.size w0 w1 → Lies w1 w1.heap.size A ((namesD D ⟨#[]⟩).map encStr) → (∀ q, A = some q → w0.heap.size ≤ q.block) → Nms (w1.setCell ⟨nb, 0, none⟩ (.slice A n c)) (D.foot d) A n NS ∧ (w1.setCell ⟨nb, 0, none⟩ (.slice A n c)).cell? ⟨nb, 0, none⟩ = some (.slice A n c) ∧ (w1.setCell ⟨nb, 0, none⟩ (.slice A n c)).cell? ⟨db, 0, none⟩ = some (.pointer (some ⟨d, 0, none⟩)) ∧ ThenX nb base d w0 (w1.setCell ⟨nb, 0, none⟩ (.slice A n c)) D D) := fun w1 A c hb hl hq => by
    have h1 := HNM.out w1 A hb hl hq
    have hne : ∀ k, k ≠ nb → (w1.setCell ⟨nb, 0, none⟩ (.slice A n c)).heap[k]? = w1.heap[k]? := fun k hk => Below.heap_setCell w1 _ _ k (fun e => hk e)
    refine ⟨⟨h1.len, fun k hk => ?_⟩, World.cell?_setCell_same w1 _ _ ((Below.cell hb (p := ⟨nb, 0, none⟩) hnl0).trans x00), ?_, ⟨?_, ?_, fun k hk => .inl hk⟩⟩
    · obtain ⟨p, e, a1, a2, a3, a4⟩ := h1.row k hk
      have := hq p e
      exact ⟨p, e, by simp; exact a1, a2, (World.cell?_of_block (a := p.add k) (by rw [add_block]; exact hne _ (by omega))).trans a3, a4⟩
    · exact (World.cell?_of_block (a := ⟨db, 0, none⟩) (hne db (fun e => HND.out e.symm))).trans ((Below.cell hb (p := ⟨db, 0, none⟩) hdbl0).trans x10)
    · exact HD0.out.keep fun k hk => (hne k (fun e => HNB.out (by rw [← e]; exact hk))).trans (hb.block k (HD0.out.lt k hk))
    · exact ⟨by rw [World.setCell]; exact hb.os, by rw [World.setCell]; exact hb.tape, by rw [World.setCell]; exact hb.output, by simp; exact hb.size, fun k hk hn => (hne k (fun e => hn (by rw [e]; exact List.mem_cons_self ..))).trans (hb.block k hk)⟩
  have HFZ : Hid (∀ w1, Below w0.heap.size w0 w1 → w1.frozen? ⟨nb, 0, none⟩ = false) := fun w1 hb => (World.frozen?_of_block (a := ⟨nb, 0, none⟩) (hb.block nb hnl0)).trans z0
  have HSZ : Hid (∀ w1 (A : Option Addr) (c : Nat), Below w0.heap.size w0 w1 → nb < (w1.setCell ⟨nb, 0, none⟩ (.slice A n c)).heap.size ∧ db < (w1.setCell ⟨nb, 0, none⟩ (.slice A n c)).heap.size) := fun w1 A c hb => by have := hb.size; simp; omega
  go_enter Try.func39, Try.ntmps39
  go_wp2_with (go_at_call 10; (with_reducible refine HNA.out.mono ?_); rintro e w1 ⟨A, c, rfl, hc1, hc2, hl1, hb1, hq1⟩; have hfz := HFZ.out w1 hb1; have x01 := (hb1.cell (p := ⟨nb, 0, none⟩) hnl0).trans x00)
  obtain ⟨hN, hx0, hx1, htx⟩ := HTX.out w1 A c hb1 hl1 hq1
  obtain ⟨hnl, hdbl⟩ := HSZ.out w1 A c hb1
  have HD := Lib.hid htx.dk
  clear hl1 hb1 hq1 hfz x01 HTX HFZ HNM HNA x00 x10 z0 hnl0 hdbl0 HSZ
  generalize w1.setCell ⟨nb, 0, none⟩ (.slice A n c) = w at *
  have HN := Lib.hid hN
  have HTX := Lib.hid htx
  have x0 := hx0
  have x1 := hx1
  have HX0 : Hid (w.cell? ⟨nb, 0, none⟩ = some (.slice A n c)) := hx0
  have HX1 : Hid (w.cell? ⟨db, 0, none⟩ = some (.pointer (some ⟨d, 0, none⟩))) := hx1
  clear hN htx hx0 hx1
  go_loopw [15] (fun iv wr => ∃ k : Nat, k ≤ n ∧ iv = .int .i64 k ∧ wr = w ∧ Hid (∀ j, j < k → (D.at_ (NS.getD j ⟨#[]⟩)).isSome = true)) (fun iv _ => n - (RowKit.intOf iv).toNat)
  case atStart => exact ⟨0, by omega, rfl, rfl, fun j hj => by omega⟩
  case round =>
    obtain ⟨k, hk, rfl, hwr, HALL⟩ := hrel
    have hwr' := hwr.symm
    subst hwr'
    by_cases hlt : k < n
    · have hkz : (k : Int) < (n : Int) := by omega
      obtain ⟨p, hA, hpb, hpn, hcn, hsz⟩ := HN.out.row k hlt
      subst hA
      obtain ⟨s, hs⟩ : ∃ s, NS.getD k ⟨#[]⟩ = s := ⟨_, rfl⟩
      rw [hs] at hcn hsz
      have HS := Lib.hid hs
      have HFI := Lib.hid (file_any base d D s w HD.out (by unfold maxLen; omega))
      clear hs hpn hsz
      cases hat : D.at_ s with
      | none =>
        rw [hat] at HFI
        have HAT := Lib.hid hat
        unfold ptrO at HFI
        simp only at HFI
        clear hat
        go_wp2_with (go_at_call 28; (with_reducible refine HFI.out.mono ?_); rintro e w4 ⟨rfl, hw4⟩; have hw4' := hw4.symm; subst hw4')
        have HBB : Hid (hereB NS (filesD D) = false) := by
          unfold hereB
          rw [Hid, List.all_eq_false]
          refine ⟨NS.getD k ⟨#[]⟩, ?_, ?_⟩
          · rw [List.getD_eq_getElem?_getD, List.getElem?_eq_getElem (by omega)]
            exact List.getElem_mem _
          · rw [← HGE.out k hlt, HS.out, HAT.out]
            simp
        first
          | exact HX3.out HBB.out _
          | (go_ret; exact HX3.out HBB.out _)
      | some f =>
        rw [hat] at HFI
        have HAT := Lib.hid hat
        unfold ptrO Hd.ptr at HFI
        simp only at HFI
        clear hat
        go_wp2_with (go_at_call 28; (with_reducible refine HFI.out.mono ?_); rintro e w4 ⟨rfl, hw4⟩; have hw4' := hw4.symm; subst hw4')
        go_roundw
        case rel =>
          refine ⟨k + 1, by omega, by go_num, (by first | rfl | trivial), fun j hj => ?_⟩
          by_cases e : j < k
          · exact HALL.out j e
          · have : j = k := by omega
            subst this
            rw [HS.out, HAT.out]
            rfl
        case measure => simp [RowKit.intOf]; omega
    · have d8 : decide ((k : Int) < (n : Int)) = false := by rw [decide_eq_false_iff_not]; omega
      have HAL2 : Hid (∀ j, j < n → (D.at_ (NS.getD j ⟨#[]⟩)).isSome = true) := fun j hj => HALL.out j (by omega)
      have HBB : Hid (hereB NS (filesD D) = true) := by
        unfold hereB
        rw [Hid, List.all_eq_true]
        intro s hs
        obtain ⟨j, hj, rfl⟩ := List.mem_iff_getElem.1 hs
        have h1 := HAL2.out j (by omega)
        rw [HGE.out j (by omega)] at h1
        rw [List.getD_eq_getElem?_getD, List.getElem?_eq_getElem hj] at h1
        exact h1
      clear HALL
      go_wp2_with fail
      go_loopw [26] (fun iv wr => ∃ k : Nat, k ≤ n ∧ iv = .int .i64 k ∧ ∃ Dk : Dsk, Hid (Then base d w wr D Dk ∧ filesD Dk = syncF (NS.take k) (filesD D) ∧ SameD D Dk)) (fun iv _ => n - (RowKit.intOf iv).toNat)
      case atStart => exact ⟨0, by omega, rfl, D, Then.refl HD.out, by rw [List.take_zero, syncF_nil], ⟨rfl, rfl, rfl⟩⟩
      case round =>
        obtain ⟨k, hk, rfl, Dk, HK⟩ := hrel
        have y0 : wr.cell? ⟨nb, 0, none⟩ = some (.slice A n c) := HK.out.1.cell HX0.out hnl HNB.out
        have y1 : wr.cell? ⟨db, 0, none⟩ = some (.pointer (some ⟨d, 0, none⟩)) := HK.out.1.cell HX1.out hdbl HDB.out
        by_cases hlt : k < n
        · have hkz : (k : Int) < (n : Int) := by omega
          obtain ⟨p, hA, hpb, hpn, hcn, hsz⟩ := HN.out.row k hlt
          subst hA
          have hcn := (World.cell?_of_block (a := p.add k) (HK.out.1.block (by rw [add_block]; exact hpb) (by rw [add_block]; exact hpn))).trans hcn
          obtain ⟨s, hs⟩ : ∃ s, NS.getD k ⟨#[]⟩ = s := ⟨_, rfl⟩
          have HTK : Hid (NS.take (k + 1) = NS.take k ++ [s]) := by
            rw [Hid, List.take_succ_eq_append_getElem (by omega), ← hs, List.getD_eq_getElem?_getD, List.getElem?_eq_getElem (by omega)]
            rfl
          have HFI := Lib.hid (file_any base d Dk s wr HK.out.1.dk (by rw [← hs]; unfold maxLen; omega))
          have h1 : (Dk.at_ s).isSome = true := by
            have h2 := HAL2.out k hlt
            rw [HGE.out k hlt, hs] at h2
            rw [← get_some_keys (F' := filesD Dk) (by rw [HK.out.2.1, syncF_names]), get_files, Option.isSome_map] at h2
            exact h2
          rw [hs] at hcn
          obtain ⟨f, hf⟩ := Option.isSome_iff_exists.1 h1
          rw [hf] at HFI
          unfold ptrO Hd.ptr at HFI
          simp only at HFI
          have hfm := at_mem hf
          have hfl := HK.out.1.dk.fl f hfm
          obtain ⟨Av, cv, hve, _, _⟩ := slice_of_row hfl.row
          have hblk := hfl.blk
          rw [hve] at hblk
          have HSY := Lib.hid (synced HK.out.1.dk hfm)
          rw [at_name hf] at HSY
          obtain ⟨fb, hfb⟩ : ∃ x, f.fb = x := ⟨_, rfl⟩
          obtain ⟨bl, hbl⟩ : ∃ x, f.b.length = x := ⟨_, rfl⟩
          rw [hfb] at HFI hblk HSY
          rw [hbl] at hblk HSY
          have e0 : wr.cell? ⟨fb, 0, none⟩ = some (.slice Av bl cv) := cell_of_row _ _ 0 _ _ _ hblk
          have e1 : wr.cell? ⟨fb, 1, none⟩ = some (.int .i64 (f.kept : Int)) := cell_of_row _ _ 1 _ _ _ hblk
          have f1 : wr.frozen? ⟨fb, 1, none⟩ = false := frozen_of_row _ _ 1 _ _ hblk
          clear hs h1 hf hfm hfl hve hblk hfb hbl hsz hpn
          go_wp2_with (go_at_call 28; (with_reducible refine HFI.out.mono ?_); rintro e w4 ⟨rfl, hw4⟩; have hw4' := hw4.symm; subst hw4')
          go_roundw
          case rel =>
            obtain ⟨D', a1, a2, a3⟩ := HSY.out
            refine ⟨k + 1, by omega, by go_num, D', HK.out.1.trans a1, ?_, ⟨a3.room.trans HK.out.2.2.room, a3.set.trans HK.out.2.2.set, a3.left.trans HK.out.2.2.left⟩⟩
            rw [a2, HK.out.2.1, syncF_add, HTK.out]
          case measure => simp [RowKit.intOf]; omega
        · have d8 : decide ((k : Int) < (n : Int)) = false := by rw [decide_eq_false_iff_not]; omega
          have HFF : Hid (filesD Dk = syncF NS (filesD D)) := by
            have := HK.out.2.1
            rw [List.take_of_length_le (by omega)] at this
            exact this
          go_wp2_with fail
          first
            | exact HXY.out Dk wr (ThenX.then_ HTX.out HK.out.1) HK.out.2.2 HFF.out
            | (go_ret; exact HXY.out Dk wr (ThenX.then_ HTX.out HK.out.1) HK.out.2.2 HFF.out)
set_option maxRecDepth 100000 in
set_option maxHeartbeats 4000000 in
theorem sync_all (base d : Nat) (D : Dsk) (A : Option Addr) (c : Nat) (w : World) (h : Dk w base d D) :
    Calls Try.prog 14 #[.pointer (some ⟨d, 0, none⟩), .slice A 0 c] w fun e w' => ∃ (er : Nat) (D' : Dsk), e = .returned (.int .i64 (er : Int)) ∧ Then base d w w' D D' ∧ ChgP D (fun er D1 => er = 0 ∧ filesD D1 = syncF (allN (filesD D)) (filesD D)) er D' := by
  obtain ⟨Q, hQ⟩ : ∃ Q : Nat → Dsk → Prop, (fun er D1 => er = 0 ∧ filesD D1 = syncF (allN (filesD D)) (filesD D)) = Q := ⟨_, rfl⟩
  have HS1 := Lib.hid (fun nb db W a1 a2 a3 a4 a5 a6 a7 => sync1_all base d nb db D A c W a1 a2 a3 a4 a5 a6 a7)
  rw [hQ] at HS1 ⊢
  clear hQ
  have hal := ((Below.refl w.heap.size w).alloc (Nat.le_refl _) (.cells #[.pointer (some ⟨d, 0, none⟩)] 23)).alloc (by simp) (.cells #[.slice A 0 c] 31)
  obtain ⟨w3, hw3⟩ : ∃ w3, (w.alloc (.cells #[.pointer (some ⟨d, 0, none⟩)] 23)).alloc (.cells #[.slice A 0 c] 31) = w3 := ⟨_, rfl⟩
  have hz3 : w3.heap.size = w.heap.size + 2 := by rw [← hw3]; simp
  have hb0 : w3.heap[w.heap.size]? = some (.cells #[.pointer (some ⟨d, 0, none⟩)] 23 (0, 0)) := by
    rw [← hw3, Below.heap_alloc _ _ _ (by simp)]
    exact heap_alloc_new w _
  have hb1 : w3.heap[w.heap.size + 1]? = some (.cells #[.slice A 0 c] 31 (0, 0)) := by
    rw [← hw3]
    have := heap_alloc_new (w.alloc (.cells #[.pointer (some ⟨d, 0, none⟩)] 23)) (.cells #[.slice A 0 c] 31)
    rwa [show (w.alloc (.cells #[.pointer (some ⟨d, 0, none⟩)] 23)).heap.size = w.heap.size + 1 by simp] at this
  rw [hw3] at hal
  have HW3 := Lib.hid hw3
  have HT3 := Lib.hid (Then.of_below h hal)
  have HLT := Lib.hid h.lt
  have y0 : w3.cell? ⟨w.heap.size, 0, none⟩ = some (.pointer (some ⟨d, 0, none⟩)) := cell_of_row _ _ 0 _ _ _ hb0
  have HCH := Lib.hid (change_syncX (w.heap.size + 1) base d (w.heap.size + 1) w.heap.size D Q w3 HT3.out.dk (fun W hW => by
    have k : ∀ i, i < w3.heap.size → W.heap[i]? = w3.heap[i]? := fun i hi => hW.block i hi
    exact HS1.out (w.heap.size + 1) w.heap.size W (HT3.out.dk.below hW (Nat.le_refl _)) (cell_of_row _ _ 0 _ _ _ ((k _ (by omega)).trans hb1)) (cell_of_row _ _ 0 _ _ _ ((k _ (by omega)).trans hb0)) (frozen_of_row _ _ 0 _ _ ((k _ (by omega)).trans hb1)) (fun h2 => by have := HLT.out _ h2; omega) (fun h2 => by have := HLT.out _ h2; omega) (by omega)))
  clear hw3 hal hb0 hb1 h HS1
  go_enter Try.func14, Try.ntmps14
  go_upto_region 1 with fail
  rw [HW3.out]
  go_wp2_with (go_at_call 38; (with_reducible refine HCH.out.mono ?_); rintro e w4 ⟨er, D4, rfl, ht4, hq4⟩)
  go_ret
  exact ⟨er, D4, rfl, ThenX.new_ HT3.out ht4 (by omega), hq4⟩
def PD.syncA (p : PD) : Nat × PD := p.chg 0 (syncF (allN p.F) p.F)
theorem syncA_pd (base d : Nat) (D : Dsk) (A : Option Addr) (c : Nat) (w : World) (h : Dk w base d D) :
    Calls Try.prog 14 #[.pointer (some ⟨d, 0, none⟩), .slice A 0 c] w fun e w' => ∃ D', e = .returned (.int .i64 (((pd D).syncA).1 : Int)) ∧ Then base d w w' D D' ∧ pd D' = ((pd D).syncA).2 :=
  (sync_all base d D A c w h).mono fun e w' h => by
    obtain ⟨er, D', he, ht, hq⟩ := h
    have h2 : (er, pd D') = (pd D).syncA := by
      refine pd_chg ?_
      unfold ChgP at hq ⊢
      split
      · rename_i hb
        rw [if_pos hb] at hq
        exact hq
      · rename_i hb
        rw [if_neg hb] at hq
        obtain ⟨D1, h1, ⟨h2, h3⟩, h4⟩ := hq
        exact ⟨D1, h1, ⟨h2, by rw [if_pos h2]; exact h3⟩, h4⟩
    exact ⟨D', by rw [he, ← h2], ht, by rw [← h2]⟩
end Go.Proofs.Ytebkgcnldbkgeaa
