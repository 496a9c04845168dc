/-
  The document's disk: how much is free, where a file stands, what a change costs.
-/
import Derived.Test.YtebkgcnldbkgeaaDpC
namespace Go.Proofs.Ytebkgcnldbkgeaa
open Go.RowKit Go.Lib Go.Sort Go.Maps
set_option linter.unusedVariables false
set_option linter.unusedSimpArgs false

set_option maxRecDepth 100000 in
set_option maxHeartbeats 4000000 in
theorem rfree_any (base r : Nat) (v : Value) (p : PD) (w : World) (h : Rk w base r v p) (hp : p.Ok) :
    Calls Try.prog 23 #[.pointer (some ⟨r, 0, none⟩)] w fun e w' => e = .returned (.int .i64 (p.free : Int)) ∧ Below w.heap.size w w' := by
  have HU : Hid (∀ W, Below w.heap.size w W → Calls Try.prog 50 #[.pointer (some ⟨r, 0, none⟩)] W fun e w' => e = .returned (.int .i64 (sumL p.F : Int)) ∧ Below W.heap.size W w') := fun W hW => rused_any base r v p W (h.below hW (Nat.le_refl _)) hp
  have c0 := h.c0
  have r1 := hp.r1
  have r2 := hp.r2
  have ht := hp.tot
  have hrl := h.rlt
  have hfr : (p.free : Int) = max (p.room - (sumL p.F : Int)) 0 := by unfold PD.free; omega
  clear h hp
  generalize sumL p.F = us at *
  generalize (p.free : Int) = fr at *
  generalize p.room = room at *
  obtain ⟨df, hdf⟩ : ∃ df, room - (us : Int) = df := ⟨_, rfl⟩
  have ew : IntKind.i64.wrap (room - (us : Int)) = df := by rw [IntKind.wrap_i64]; omega
  rw [hdf] at hfr
  have ht2 : -4194304 ≤ df ∧ df ≤ 4194304 := by omega
  clear hdf
  go_enter Try.func23, Try.ntmps23
  go_upto_region 1 with fail
  go_cut [3] (fun s3 wx => s3 = .int .i64 df ∧ Hid (Below w.heap.size w wx))
  case first =>
    go_region_held3 (fun w' => w'.cell? ⟨r, 0, none⟩ = some (.int .i64 room)) (first | exact c0 | exact x1 | go_keep)
      (first | (go_at_call 50; refine (HU.out w.drew ((Below.refl _ _).drew)).mono ?_; rintro e w1 ⟨rfl, hb1⟩; have x1 : w1.cell? ⟨r, 0, none⟩ = some (.int .i64 room) := (hb1.cell (p := ⟨r, 0, none⟩) hrl).trans c0))
    all_goals
      have HB1 := Lib.hid hb1
      go_wp2_with fail
      go_meet
      exact ⟨rfl, ((Below.refl _ _).drew).trans HB1.out⟩
  case rest =>
    obtain ⟨rfl, HB⟩ := hcut
    clear ew ht HU hrl r1 r2 c0
    by_cases h0 : df < 0
    · have d1 : decide (df < 0) = true := decide_eq_true h0
      have e0 : fr = 0 := by omega
      subst e0
      clear hfr ht2 h0
      go_wp2_with fail
      go_ret
      exact ⟨rfl, HB.out⟩
    · have d1 : decide (df < 0) = false := decide_eq_false h0
      have e0 : fr = df := by omega
      subst e0
      clear hfr ht2 h0
      go_wp2_with fail
      go_ret
      exact ⟨rfl, HB.out⟩
theorem str_eq {a b : ByteArray} : a.toList = b.toList ↔ a = b := by
  constructor
  · intro e
    rw [ByteArray.toList_eq, ByteArray.toList_eq] at e
    exact key_name e
  · rintro rfl; rfl
/-- where a file of this name stands -/
def AtP (F : List Fl) (s : ByteArray) (x : Int) : Prop := match getT Fl.key F s.data.toList with
  | none => x = -1
  | some f => ∃ i : Nat, i < F.length ∧ F.getD i default = f ∧ x = (i : Int)
set_option maxRecDepth 100000 in
set_option maxHeartbeats 4000000 in
theorem rat_any (base r : Nat) (v : Value) (p : PD) (s : ByteArray) (w : World) (h : Rk w base r v p) (hp : p.Ok) :
    Calls Try.prog 62 #[.pointer (some ⟨r, 0, none⟩), .string s] w fun e w' => ∃ x, e = .returned (.int .i64 x) ∧ AtP p.F s x ∧ w' = w := by
  obtain ⟨X, hX⟩ : ∃ X : Ending → World → Prop, (fun e w' => ∃ x, e = .returned (.int .i64 x) ∧ AtP p.F s x ∧ w' = w) = X := ⟨_, rfl⟩
  have HXN : Hid ((∀ j, j < p.F.length → (p.F.getD j default).name ≠ s) → X (.returned (.int .i64 (-1))) w) := fun hn => by
    rw [← hX]
    refine ⟨-1, rfl, ?_, rfl⟩
    unfold AtP
    cases hg : getT Fl.key p.F s.data.toList with
    | none => rfl
    | some f =>
      exfalso
      obtain ⟨j, hj, e⟩ := List.mem_iff_getElem.1 (getT_mem _ hg)
      refine hn j hj ?_
      rw [List.getD_eq_getElem?_getD, List.getElem?_eq_getElem hj, e]
      exact key_name (getT_key Fl.key hg)
  have HXY : Hid (∀ k, k < p.F.length → (p.F.getD k default).name = s → X (.returned (.int .i64 (k : Int))) w) := fun k hk he => by
    rw [← hX]
    refine ⟨k, rfl, ?_, rfl⟩
    have hm := getT_of_mem Fl.key hp.rise (mem_getD hk)
    unfold AtP
    rw [show s.data.toList = (p.F.getD k default).key by rw [← he]; rfl, hm]
    exact ⟨k, hk, rfl, rfl⟩
  rw [hX]
  clear hX
  obtain ⟨A, c, rfl, _, _, hF⟩ := Ths.of_row h.row rfl
  have HF := Lib.hid hF
  have c1 := h.c1
  have hl := hp.len
  generalize p.F = F at *
  generalize hn : F.length = n at *
  clear h hp hF hn
  go_enter Try.func62, Try.ntmps62
  go_wp2_with fail
  go_loopw [11] (fun iv wr => ∃ k : Nat, k ≤ n ∧ iv = .int .i64 k ∧ wr = w ∧ Hid (∀ j, j < k → (F.getD j default).name ≠ s)) (fun iv _ => n - (RowKit.intOf iv).toNat)
  case atStart => exact ⟨0, by omega, rfl, rfl, fun j hj => by omega⟩
  case round =>
    obtain ⟨k, hk, rfl, hwr, HA⟩ := hrel
    have hwr' := hwr.symm
    subst hwr'
    clear hwr
    by_cases hlt : k < n
    · have hkz : (k : Int) < (n : Int) := by omega
      obtain ⟨q, rfl, hq, s0, _, _⟩ := Fs.row HF.out hlt
      obtain ⟨nm, hnm⟩ : ∃ x, (F.getD k default).name = x := ⟨_, rfl⟩
      rw [hnm] at s0
      have HNM := Lib.hid hnm
      by_cases he : nm = s
      · have e1 : (nm.toList == s.toList) = true := by rw [he]; simp
        have HE := Lib.hid (HXY.out k hlt (by rw [hnm]; exact he))
        clear hnm he
        go_wp2_with fail
        first
          | exact HE.out
          | (go_ret; exact HE.out)
      · have e1 : (nm.toList == s.toList) = false := by rw [beq_eq_false_iff_ne]; exact fun e => he (str_eq.1 e)
        have HNE := Lib.hid he
        clear hnm he
        go_wp2_with fail
        go_roundw
        case rel =>
          refine ⟨k + 1, by omega, by go_num, (by first | rfl | trivial), fun j hj => ?_⟩
          by_cases e : j < k
          · exact HA.out j e
          · obtain rfl : j = k := by omega
            rw [HNM.out]
            exact HNE.out
        case measure => simp [RowKit.intOf]; omega
    · have d8 : decide ((k : Int) < (n : Int)) = false := by rw [decide_eq_false_iff_not]; omega
      have HE := Lib.hid (HXN.out (fun j hj => HA.out j (by omega)))
      go_wp2_with fail
      first
        | exact HE.out
        | (go_ret; exact HE.out)
set_option maxRecDepth 100000 in
set_option maxHeartbeats 4000000 in
theorem rdone_any (base r : Nat) (v : Value) (p : PD) (w : World) (h : Rk w base r v p) (l1 : 0 ≤ p.left) (l2 : p.left ≤ 9223372036854775807) (hb : p.burnt = false) :
    Calls Try.prog 64 #[.pointer (some ⟨r, 0, none⟩)] w fun e w' => e = .returned (.int .i64 0) ∧ RT base r w w' v v p.burn := by
  have c2 := h.c2
  have c3 := h.c3
  have f2 := h.free 2
  have f3 := h.free 3
  have HK := Lib.hid h
  have hblk := h.blk
  obtain ⟨F, room, st, lf⟩ := p
  unfold PD.lf PD.burnt PD.burn at *
  simp only at *
  clear h
  cases st with
  | false =>
    clear hblk hb
    go_enter Try.func64, Try.ntmps64
    go_wp2_with fail
    go_ret
    exact ⟨rfl, RT.refl HK.out⟩
  | true =>
    have hlf : lf ≠ 0 := by simpa using hb
    have ew : IntKind.i64.wrap (lf - 1) = lf - 1 := by rw [IntKind.wrap_i64]; omega
    have d1 : decide (0 < lf) = true := by rw [decide_eq_true_iff]; omega
    simp only [if_true, ↓reduceIte] at c2
    have hbl0 : (lf == 0) = false := by simpa using hlf
    simp only [hbl0, Bool.true_and] at c3
    simp only [if_true, ↓reduceIte, hbl0, Bool.true_and] at hblk
    have hb2 : (w.setCell ⟨r, 2, none⟩ (.int .i64 (lf - 1))).heap[r]? = some (.cells #[.int .i64 room, v, .int .i64 (lf - 1), .bool false] 78 (0, 0)) := by rw [heap_setCell_same w r 2 _ _ _ hblk]; rfl
    have hb3 : ((w.setCell ⟨r, 2, none⟩ (.int .i64 (lf - 1))).setCell ⟨r, 3, none⟩ (.bool true)).heap[r]? = some (.cells #[.int .i64 room, v, .int .i64 (lf - 1), .bool true] 78 (0, 0)) := by rw [heap_setCell_same _ r 3 _ _ _ hb2]; rfl
    by_cases h1 : lf - 1 = 0
    · have d2 : (lf - 1 == 0) = true := by simpa using h1
      have HR : Hid (RT base r w ((w.setCell ⟨r, 2, none⟩ (.int .i64 (lf - 1))).setCell ⟨r, 3, none⟩ (.bool true)) v v ⟨F, room, true, lf - 1⟩) :=
        Rk.own HK.out (by rw [hb3]; unfold PD.lf PD.burnt; simp [d2]) rfl rfl rfl rfl (by simp) (fun k hk hne => (Below.heap_setCell _ _ _ k (fun e => hne e)).trans (Below.heap_setCell _ _ _ k (fun e => hne e)))
      clear hblk hb hb2 hb3 h1
      go_enter Try.func64, Try.ntmps64
      go_wp2_with fail
      go_ret
      exact ⟨rfl, HR.out⟩
    · have d2 : (lf - 1 == 0) = false := by simpa using h1
      have HR : Hid (RT base r w (w.setCell ⟨r, 2, none⟩ (.int .i64 (lf - 1))) v v ⟨F, room, true, lf - 1⟩) :=
        Rk.own HK.out (by rw [hb2]; unfold PD.lf PD.burnt; simp [d2]) rfl rfl rfl rfl (by simp) (fun k hk hne => Below.heap_setCell _ _ _ k (fun e => hne e))
      clear hblk hb hb2 hb3 h1
      go_enter Try.func64, Try.ntmps64
      go_wp2_with fail
      go_ret
      exact ⟨rfl, HR.out⟩
end Go.Proofs.Ytebkgcnldbkgeaa
