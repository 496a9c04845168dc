/-
  DiskFull: the bytes of all files are never more than the room; what is refused changes nothing.
-/
import Derived.Test.YtebkgcnldbkgeaaDpU
import Derived.Test.YtebkgcnldbkgeaaDpMc
namespace Go.Proofs.Ytebkgcnldbkgeaa
open Go.RowKit Go.Lib Go.Sort Go.Maps
set_option linter.unusedVariables false
set_option linter.unusedSimpArgs false

theorem sum_cons (f : Fl) (F : List Fl) : sumL (f :: F) = f.b.length + sumL F := by unfold sumL; simp
theorem sum_map_le (g : Fl → Fl) (h : ∀ f, (g f).b.length ≤ f.b.length) (F : List Fl) : sumL (F.map g) ≤ sumL F := by
  induction F with
  | nil => exact Nat.le_refl _
  | cons y l ih => rw [List.map_cons, sum_cons, sum_cons]; have := h y; omega
theorem sum_filter (q : Fl → Bool) (F : List Fl) : sumL (F.filter q) ≤ sumL F := by
  induction F with
  | nil => exact Nat.le_refl _
  | cons y l ih =>
    rw [List.filter_cons]
    split
    · rw [sum_cons, sum_cons]; omega
    · rw [sum_cons]; omega
theorem sum_del {g : Fl} {F : List Fl} (hg : g ∈ F) : sumL (delF g.name F) + g.b.length ≤ sumL F := by
  induction F with
  | nil => cases hg
  | cons y l ih =>
    have e : delF g.name (y :: l) = if y.name = g.name then delF g.name l else y :: delF g.name l := by
      show List.filter _ _ = _
      rw [List.filter_cons]
      by_cases h : y.name = g.name
      · rw [if_pos h, decide_eq_true (key_iff.2 h)]; rfl
      · rw [if_neg h, decide_eq_false (fun e => h (key_iff.1 e))]; rfl
    rw [e, sum_cons]
    by_cases h : y.name = g.name
    · rw [if_pos h]
      rcases List.mem_cons.1 hg with rfl | hg
      · have := sum_filter (fun f => !decide (f.key = g.name.data.toList)) l
        show sumL (List.filter _ l) + _ ≤ _
        omega
      · have := ih hg; omega
    · rw [if_neg h, sum_cons]
      rcases List.mem_cons.1 hg with rfl | hg
      · exact absurd rfl h
      · have := ih hg; omega
theorem sum_ins (x : Fl) (F : List Fl) : sumL (insF x F) = x.b.length + sumL F := by
  induction F with
  | nil => show sumL [x] = _; rw [sum_cons]
  | cons y l ih =>
    show sumL (insT _ _ _) = _
    unfold insT
    split
    · rw [sum_cons]
    · rw [sum_cons, sum_cons]
      have h2 : sumL (insT Fl.key x l) = x.b.length + sumL l := ih
      omega
theorem sum_set (F : List Fl) : ∀ (i : Nat) (f' : Fl), i < F.length → sumL (F.set i f') + (F.getD i default).b.length = sumL F + f'.b.length := by
  induction F with
  | nil => intro i f' h; exact absurd h (by simp)
  | cons y l ih =>
    intro i f' h
    cases i with
    | zero => show sumL (f' :: l) + y.b.length = _; rw [sum_cons, sum_cons]; omega
    | succ i =>
      have := ih i f' (by simpa using h)
      show sumL (y :: l.set i f') + (l.getD i default).b.length = _
      rw [sum_cons, sum_cons]
      omega
theorem chg_cases (p : PD) (E : Nat) (F : List Fl) : (p.chg E F).2.room = p.room ∧ ((p.chg E F).2.F = p.F ∨ (E = 0 ∧ (p.chg E F).2.F = F)) := by
  unfold PD.chg
  split
  · exact ⟨rfl, .inl rfl⟩
  · split
    · rename_i h
      unfold PD.burn
      split
      · exact ⟨rfl, .inr ⟨h, rfl⟩⟩
      · exact ⟨rfl, .inr ⟨h, rfl⟩⟩
    · exact ⟨rfl, .inl rfl⟩
/-- the files fit in the room -/
def Fit (p : PD) : Prop := (sumL p.F : Int) ≤ p.room
theorem chg_fit {p : PD} {E : Nat} {F : List Fl} (h : Fit p) (hF : E = 0 → (sumL F : Int) ≤ p.room) : Fit (p.chg E F).2 ∧ (p.chg E F).2.room = p.room := by
  obtain ⟨h1, h2⟩ := chg_cases p E F
  refine ⟨?_, h1⟩
  unfold Fit
  rw [h1]
  rcases h2 with h2 | ⟨h2, h3⟩
  · rw [h2]; exact h
  · rw [h3]; exact hF h2
theorem opP_fit {p : PD} {o : O4} (hp : p.Ok) (h : Fit p) (h7 : o.kd ≠ 7) (h9 : o.kd ≠ 9) : Fit (opP p o) ∧ (opP p o).room = p.room := by
  have hle : ∀ F, sumL F ≤ sumL p.F → (sumL F : Int) ≤ p.room := fun F hF => by unfold Fit at h; omega
  rcases (show (o.kd = 0 ∨ o.kd = 1) ∨ o.kd = 2 ∨ o.kd = 3 ∨ o.kd = 4 ∨ o.kd = 5 ∨ o.kd = 6 ∨ o.kd = 8 ∨ (o.kd < 0 ∨ 9 < o.kd) by omega) with hk | hk | hk | hk | hk | hk | hk | hk
  · rw [opP01 hk]
    refine chg_fit h fun hE => ?_
    have hx : o.s.data.toList.length ≤ p.free := by
      unfold PD.appE at hE
      split at hE
      · omega
      · split at hE
        · omega
        · rename_i h2; omega
    have hs : sumL (addF o.a o.s.data.toList (mkF o.a p.F)) ≤ sumL p.F + o.s.data.toList.length := by
      cases hg : getT Fl.key p.F o.a.data.toList with
      | none => rw [add_none _ hg, sum_ins]; show o.s.data.toList.length + _ ≤ _; omega
      | some f =>
        obtain ⟨i, hi, e⟩ := List.mem_iff_getElem.1 (getT_mem _ hg)
        have e2 : p.F.getD i default = f := by rw [List.getD_eq_getElem?_getD, List.getElem?_eq_getElem hi, ← e]; rfl
        rw [add_some hp.rise _ hg hi e2]
        have h1 := sum_set p.F i { f with b := f.b ++ o.s.data.toList } hi
        rw [e2] at h1
        have h2 : (f.b ++ o.s.data.toList).length = f.b.length + o.s.data.toList.length := List.length_append
        have h3 : ({ f with b := f.b ++ o.s.data.toList } : Fl).b.length = f.b.length + o.s.data.toList.length := h2
        omega
    unfold Fit at h
    unfold PD.free at hx
    omega
  · rw [opP2 hk]
    refine chg_fit h fun _ => hle _ ?_
    exact sum_map_le _ (fun f => by split <;> exact Nat.le_refl _) _
  · rw [opP3 hk]
    refine chg_fit h fun _ => hle _ ?_
    exact sum_map_le _ (fun f => by split <;> exact Nat.le_refl _) _
  · rw [opP4 hk]
    refine chg_fit h fun _ => hle _ ?_
    exact sum_map_le _ (fun f => by
      split
      · show (f.b.take _).length ≤ _; rw [List.length_take]; omega
      · exact Nat.le_refl _) _
  · rw [opP5 hk]
    refine chg_fit h fun _ => hle _ ?_
    unfold PD.renF
    cases hg : getT Fl.key p.F o.a.data.toList with
    | none => exact Nat.le_refl _
    | some g =>
      show sumL (insF { g with name := o.b } (delF o.b (delF g.name p.F))) ≤ _
      rw [sum_ins]
      have h1 := sum_del (getT_mem _ hg)
      have h2 := sum_filter (fun f => !decide (f.key = o.b.data.toList)) (delF g.name p.F)
      have h3 : sumL (delF o.b (delF g.name p.F)) ≤ sumL (delF g.name p.F) := h2
      show g.b.length + _ ≤ _
      omega
  · rw [opP6 hk]
    refine chg_fit h fun _ => hle _ ?_
    exact sum_filter _ _
  · rw [opP8 hk]
    unfold PD.fuse
    split
    · exact ⟨h, rfl⟩
    · exact ⟨h, rfl⟩
  · rw [opPx hk]
    exact ⟨h, rfl⟩
theorem opP_refused {p : PD} {o : O4} (hk : o.kd = 0 ∨ o.kd = 1) (h : p.free < o.s.size) : opP p o = p := by
  rw [opP01 hk]
  unfold PD.append
  have hE : p.appE o.a o.s.data.toList.length ≠ 0 := by
    unfold PD.appE
    rw [str_len]
    split
    · decide
    · rw [if_pos (.inl h)]; decide
  unfold PD.chg
  rw [if_neg hE]
  split <;> rfl
set_option maxRecDepth 100000 in
set_option maxHeartbeats 16000000 in
theorem diskFull_any (room : Int) (A : Option Addr) (n c : Nat) (X : List O4) (w : World) (hX : Ops4 w w.heap.size A n X) (hn : n ≤ maxLen) :
    Calls Try.prog 5 #[.int .i64 room, .slice A n c] w fun e w' => e = .returned (.bool true) ∧ Below w.heap.size w w' := by
  have HXX := Lib.hid hX
  have HNW : Hid (∀ k : Int, 0 ≤ k → k ≤ 799 → Calls Try.prog 15 #[.int .i64 k] w fun e w' => ∃ d, e = .returned (.tuple #[.pointer (some ⟨d, 0, none⟩), .int .i64 0]) ∧ Dk w' w.heap.size d (newD k) ∧ Below w.heap.size w w') := fun k h1 h2 => (new_any4 k w).mono fun e w' ⟨h3, h4⟩ => by
    rw [if_neg (by omega)] at h3
    obtain ⟨d, he, _, hd⟩ := h3
    exact ⟨d, he, hd, h4⟩
  unfold maxLen at hn
  obtain ⟨t, ht⟩ : ∃ t, Int.tmod room 800 = t := ⟨_, rfl⟩
  have htb := tmod_le room 800 (by decide)
  have ht1 : -800 < t ∧ t < 800 := by rw [← ht]; exact htb
  clear htb hX
  go_enter Try.func5, Try.ntmps5
  go_upto_if 18 with fail
  go_cut [0, 19, 20] (fun s0 s19 s20 wx => ∃ k : Int, s0 = .int .i64 k ∧ wx = w ∧ 0 ≤ k ∧ k ≤ 799)
  case first =>
    by_cases hneg : t < 0
    · have d0 : decide (t < 0) = true := decide_eq_true hneg
      have ew : IntKind.i64.wrap (-t) = -t := by rw [IntKind.wrap_i64]; omega
      go_wp2_with fail
      go_meet
      exact ⟨-t, rfl, rfl, by omega, by omega⟩
    · have d0 : decide (t < 0) = false := decide_eq_false hneg
      go_wp2_with fail
      go_meet
      exact ⟨t, rfl, rfl, by omega, by omega⟩
  case rest =>
    obtain ⟨k, rfl, hwe, hk0, hk1⟩ := hcut
    have hwe' := hwe.symm
    subst hwe'
    have HN := Lib.hid (HNW.out k hk0 hk1)
    clear ht ht1 HNW
    go_wp2_with (first
      | (go_at_call 16; (with_reducible refine (rnew_any k _).mono ?_); rintro e w2 ⟨r, rfl, hr2, hb2⟩; have HTD := Lib.hid (TD.new_ hd1 hb1 hr2 hb2); have HB2 := Lib.hid (hb1.trans (hb2.mono hb1.size)); clear hr2 hb2 hd1 hb1)
      | (go_at_call 15; (with_reducible refine HN.out.mono ?_); rintro e w1 ⟨d, rfl, hd1, hb1⟩))
    have HF0 : Hid (Fit (newP k) ∧ (newP k).room = k) := ⟨by unfold Fit newP; show ((0 : Nat) : Int) ≤ k; omega, rfl⟩
    clear HN
    generalize newP k = p0 at *
    generalize newD k = D0 at *
    generalize (Value.slice none 0 0) = v0 at HTD
    go_loopw [32] (fun iv wr => ∃ (i : Nat) (D : Dsk) (v : Value) (p : PD), i ≤ n ∧ iv = .int .i64 i ∧ Hid (TD wr w.heap.size d r D v p) ∧ Hid (Fit p ∧ p.room = k) ∧ Hid (Below w.heap.size w wr)) (fun iv _ => n - (RowKit.intOf iv).toNat)
    case atStart => exact ⟨0, D0, v0, p0, by omega, rfl, HTD.out, HF0.out, HB2.out⟩
    case round =>
      obtain ⟨i, D, v, p, hi, rfl, HT, HF, HB⟩ := hrel
      by_cases hit : i < n
      · have hiz : (i : Int) < (n : Int) := by omega
        have hXW := HXX.out.below HB.out
        obtain ⟨q, rfl, s0, s1, s2, s3, s4, s5⟩ := hXW.row hit
        have hin := hXW.inn i hit
        generalize X.getD i default = o at *
        have hal := (Below.refl wr.heap.size wr).alloc (Nat.le_refl _) (.cells #[.int .i64 o.kd, .string o.a, .string o.b, .string o.s, .int .i64 o.n, .slice o.pA o.pn o.pc] 44)
        have hN0 := heap_alloc_new wr (.cells #[.int .i64 o.kd, .string o.a, .string o.b, .string o.s, .int .i64 o.n, .slice o.pA o.pn o.pc] 44)
        obtain ⟨w6, hw6⟩ : ∃ w6, wr.alloc (.cells #[.int .i64 o.kd, .string o.a, .string o.b, .string o.s, .int .i64 o.n, .slice o.pA o.pn o.pc] 44) = w6 := ⟨_, rfl⟩
        rw [hw6] at hal hN0
        have HW6 := Lib.hid hw6
        have HT6 := Lib.hid (HT.out.below hal (Nat.le_refl _))
        have HB6 := Lib.hid (HB.out.trans (hal.mono HB.out.size))
        have HIN := Lib.hid (hin.below hal)
        have HNF : Hid (wr.heap.size ∉ D.foot d ++ rfoot r v) := fun h2 => by have := HT.out.lt _ h2; omega
        have HN0 := Lib.hid hN0
        clear hw6 hal hN0 hin hXW
        go_upto_region 11 with fail
        rw [HW6.out]
        clear s0 s1 s2 s3 s4 s5
        by_cases hmi : 60 ≤ i
        · have d1 : decide ((60 : Int) ≤ (i : Int)) = true := by rw [decide_eq_true_iff]; omega
          have d1' : decide (60 ≤ i) = true := decide_eq_true hmi
          clear hmi
          go_wp2_with (go_at_call 8; (with_reducible refine (awake4_any _).mono ?_); rintro e w7 ⟨rfl, hb7⟩)
          go_ret
          exact ⟨rfl, HB6.out.trans (hb7.mono HB6.out.size)⟩
        · have d1 : decide ((60 : Int) ≤ (i : Int)) = false := by rw [decide_eq_false_iff_not]; omega
          have d1' : decide (60 ≤ i) = false := decide_eq_false hmi
          obtain ⟨b0, b1, b2, b3, b4, b5⟩ := six_cells HN0.out
          clear hmi
          by_cases h7 : o.kd = 7
          · have e7 : (o.kd == 7) = true := by rw [beq_iff_eq]; exact h7
            clear h7
            go_wp2_with fail
            go_roundw
            case rel => exact ⟨i + 1, D, v, p, by omega, by go_num, HT6.out, HF.out, HB6.out⟩
            case measure => simp [RowKit.intOf]; omega
          · have e7 : (o.kd == 7) = false := by rw [beq_eq_false_iff_ne]; exact h7
            by_cases h9 : o.kd = 9
            · have e9 : (o.kd == 9) = true := by rw [beq_iff_eq]; exact h9
              clear h7 h9
              go_wp2_with fail
              go_roundw
              case rel => exact ⟨i + 1, D, v, p, by omega, by go_num, HT6.out, HF.out, HB6.out⟩
              case measure => simp [RowKit.intOf]; omega
            · have e9 : (o.kd == 9) = false := by rw [beq_eq_false_iff_ne]; exact h9
              obtain ⟨ob, hob⟩ : ∃ ob, wr.heap.size = ob := ⟨_, rfl⟩
              rw [hob] at HN0 HNF b0 b1 b2 b3 b4 b5
              have HCP : Hid (Calls Try.prog 17 #[.pointer (some ⟨r, 0, none⟩)] w6 fun e w' => ∃ r2 v2, e = .returned (.pointer (some ⟨r2, 0, none⟩)) ∧ Rk w' w6.heap.size r2 v2 p ∧ Below w6.heap.size w6 w') := rcopy_any w.heap.size r v p w6 HT6.out.rk (by have := HT6.out.ok.len; omega)
              have HSL : Hid (∀ V, Below w6.heap.size w6 V → Calls Try.prog 19 #[.agg #[.int .i64 o.kd, .string o.a, .string o.b, .string o.s, .int .i64 o.n, .slice o.pA o.pn o.pc]] V fun e w' => e = .returned (.agg #[.int .i64 (sm4 o).kd, .string (sm4 o).a, .string (sm4 o).b, .string (sm4 o).s, .int .i64 (sm4 o).n, .slice (sm4 o).pA (sm4 o).pn (sm4 o).pc]) ∧ Below V.heap.size V w') := fun V hV => small4_any o V (HIN.out.below hV)
              have HSTEP : Hid (∀ V1 V r2 v2, Rk V1 w6.heap.size r2 v2 p → Below w6.heap.size w6 V1 → Below V1.heap.size V1 V → Calls Try.prog 18 #[.pointer (some ⟨d, 0, none⟩), .pointer (some ⟨r, 0, none⟩), .agg #[.int .i64 (sm4 o).kd, .string (sm4 o).a, .string (sm4 o).b, .string (sm4 o).s, .int .i64 (sm4 o).n, .slice (sm4 o).pA (sm4 o).pn (sm4 o).pc]] V fun e w' => ∃ D' v', e = .returned (.tuple #[.pointer (some ⟨d, 0, none⟩), .pointer (some ⟨r, 0, none⟩), .bool true]) ∧ TD w' w.heap.size d r D' v' (opP p (sm4 o)) ∧ Below w.heap.size w w' ∧ Rk w' w6.heap.size r2 v2 p ∧ w'.heap[ob]? = some (.cells #[.int .i64 o.kd, .string o.a, .string o.b, .string o.s, .int .i64 o.n, .slice o.pA o.pn o.pc] 44 (0, 0))) := fun V1 V r2 v2 hr hV1 hV2 => by
                have hV : Below w6.heap.size w6 V := hV1.trans (hV2.mono hV1.size)
                have hb6 := HB6.out.trans (hV.mono HB6.out.size)
                have htv := HT6.out.below hV (Nat.le_refl _)
                have hrV := hr.below hV2 (Nat.le_refl _)
                refine (step_any w.heap.size d r D v p (sm4 o) V htv hb6.size (HIN.out.ok.below hV)).mono fun e w' hh => ?_
                obtain ⟨d', r', D', v', he, ts, hdr⟩ := hh
                obtain ⟨rfl, rfl⟩ := hdr h9
                have hobl : ob < w6.heap.size := (Array.getElem?_eq_some_iff.1 HN0.out).1
                refine ⟨D', v', he, ts.td, hb6.trans (ts.below htv hb6.size), hrV.keep fun k hk => ts.tu.block k (hrV.lt k hk) fun h2 => ?_, ((ts.tu.block ob (by have := hV.size; omega) HNF.out).trans (hV.block ob hobl)).trans HN0.out⟩
                have := HT6.out.lt k h2
                have := hrV.le k hk
                omega
              have HFT : Hid (Fit (opP p (sm4 o)) ∧ (opP p (sm4 o)).room = k) := by
                obtain ⟨a1, a2⟩ := opP_fit (o := sm4 o) HT6.out.ok HF.out.1 h7 h9
                exact ⟨a1, a2.trans HF.out.2⟩
              have HRF : Hid ((o.kd = 0 ∨ o.kd = 1) → p.free < (shortB o.s 300).size → opP p (sm4 o) = p) := fun h1 h2 => opP_refused (o := sm4 o) h1 h2
              have HSH : Hid (∀ W, Calls Try.prog 22 #[.string o.s, .int .i64 300] W fun e w' => e = .returned (.string (shortB o.s 300)) ∧ w' = W) := fun W => short_any4 o.s 300 W HIN.out.s (by decide)
              generalize opP p (sm4 o) = p2 at *
              generalize sm4 o = o2 at *
              generalize shortB o.s 300 = b at *
              have hfr : p.free ≤ 4194304 := by unfold PD.free; have := HT6.out.ok.r2; omega
              go_upto_region 15 with (first
                | (go_at_call 18; (with_reducible refine (HSTEP.out _ _ _ _ hr7 hb7 hb8).mono ?_); rintro e w9 ⟨D9, v9, rfl, ht9, hb9, hr9, hx9⟩)
                | (go_at_call 19; (with_reducible refine (HSL.out _ hb7).mono ?_); rintro e w8 ⟨rfl, hb8⟩)
                | (go_at_call 17; (with_reducible refine HCP.out.mono ?_); rintro e w7 ⟨r2, v2, rfl, hr7, hb7⟩; have g0 := (hb7.cell (p := ⟨ob, 0, none⟩) (Array.getElem?_eq_some_iff.1 HN0.out).1).trans b0; have g1 := (hb7.cell (p := ⟨ob, 1, none⟩) (Array.getElem?_eq_some_iff.1 HN0.out).1).trans b1; have g2 := (hb7.cell (p := ⟨ob, 2, none⟩) (Array.getElem?_eq_some_iff.1 HN0.out).1).trans b2; have g3 := (hb7.cell (p := ⟨ob, 3, none⟩) (Array.getElem?_eq_some_iff.1 HN0.out).1).trans b3; have g4 := (hb7.cell (p := ⟨ob, 4, none⟩) (Array.getElem?_eq_some_iff.1 HN0.out).1).trans b4; have g5 := (hb7.cell (p := ⟨ob, 5, none⟩) (Array.getElem?_eq_some_iff.1 HN0.out).1).trans b5))
              have hb79 : Hid (TD w9 w.heap.size d r D9 v9 p2) := ht9
              have HT9 := hb79
              have HB9 := Lib.hid hb9
              have HR9 := Lib.hid hr9
              have HX9 := Lib.hid hx9
              have hsum : sumL p2.F = usedH D9.H := by rw [← ht9.pe]; exact sumL_files
              have hfrd : p2.free = freeD D9 := by rw [← ht9.pe]; exact (pd_free D9).symm
              have hU : (usedH D9.H : Int) ≤ k := by have h1 := HFT.out.1; unfold Fit at h1; rw [HFT.out.2, hsum] at h1; exact h1
              have hF9 : (freeD D9 : Int) = k - (usedH D9.H : Int) := by rw [← hfrd]; unfold PD.free; rw [HFT.out.2, hsum]; omega
              have HUS : Hid (∀ V, Below w9.heap.size w9 V → Calls Try.prog 20 #[.pointer (some ⟨d, 0, none⟩)] V fun e w' => e = .returned (.int .i64 (usedH D9.H : Int)) ∧ Below V.heap.size V w') := fun V hV => used_any w.heap.size d D9 V (HT9.out.dk.below hV (Nat.le_refl _))
              have HFS : Hid (∀ V, Below w9.heap.size w9 V → Calls Try.prog 21 #[.pointer (some ⟨d, 0, none⟩)] V fun e w' => e = .returned (.int .i64 (freeD D9 : Int)) ∧ Below V.heap.size V w') := fun V hV => free_any w.heap.size d D9 V (HT9.out.dk.below hV (Nat.le_refl _))
              have HSA : Hid (p2 = p → ∀ V, Below w9.heap.size w9 V → Calls Try.prog 24 #[.pointer (some ⟨d, 0, none⟩), .pointer (some ⟨r2, 0, none⟩)] V fun e w' => e = .returned (.bool true) ∧ Below V.heap.size V w') := fun hp V hV => same_any w.heap.size d w6.heap.size r2 D9 v2 V (HT9.out.dk.below hV (Nat.le_refl _)) (by rw [HT9.out.pe, hp]; exact HR9.out.below hV (Nat.le_refl _))
              have HWF : Hid (∀ V, Below w9.heap.size w9 V → Calls Try.prog 23 #[.pointer (some ⟨r2, 0, none⟩)] V fun e w' => e = .returned (.int .i64 (p.free : Int)) ∧ Below V.heap.size V w') := fun V hV => rfree_any w6.heap.size r2 v2 p V (HR9.out.below hV (Nat.le_refl _)) HT6.out.ok
              obtain ⟨U, hUe⟩ : ∃ U, usedH D9.H = U := ⟨_, rfl⟩
              obtain ⟨fr, hfre⟩ : ∃ fr, freeD D9 = fr := ⟨_, rfl⟩
              rw [hUe] at HUS hU hF9
              rw [hfre] at HFS hF9
              have dU : decide (k < (U : Int)) = false := by rw [decide_eq_false_iff_not]; omega
              have eU : IntKind.i64.wrap (k - (U : Int)) = (fr : Int) := by rw [IntKind.wrap_i64]; omega
              have eU2 : k - (U : Int) = (fr : Int) := by omega
              clear hr7 hb7 hb8 g0 g1 g2 g3 g4 g5 b0 b1 b2 b3 b4 b5 hsum hfrd hUe hfre hF9 ht9 hb9 hr9 hx9 HSTEP HSL HCP HT6 HB6 HIN
              go_upto_region 17 with (first
                | (go_at_call 20; (with_reducible refine (HUS.out _ hb11).mono ?_); rintro e w12 ⟨rfl, hb12⟩)
                | (go_at_call 21; (with_reducible refine (HFS.out _ hb10).mono ?_); rintro e w11 ⟨rfl, hbx⟩; have hb11 := hb10.trans (hbx.mono hb10.size))
                | (go_at_call 20; (with_reducible refine (HUS.out _ (Below.refl _ _)).mono ?_); rintro e w10 ⟨rfl, hb10⟩))
              have hb912 : Below w9.heap.size w9 w12 := hb11.trans (hb12.mono hb11.size)
              have HBB := Lib.hid hb912
              have hx12 := (hb912.block ob (Array.getElem?_eq_some_iff.1 HX9.out).1).trans HX9.out
              obtain ⟨b0, b1, b2, b3, b4, b5⟩ := six_cells hx12
              have HEND : Hid (∀ V, Below w9.heap.size w9 V → TD V w.heap.size d r D9 v9 p2 ∧ Below w.heap.size w V) := fun V hV => ⟨HT9.out.below hV (Nat.le_refl _), HB9.out.trans (hV.mono HB9.out.size)⟩
              clear hb10 hbx hb11 hb12 hx12 dU eU eU2 hU hb912
              have HWF12 := Lib.hid (HWF.out w12 HBB.out)
              by_cases h01 : o.kd = 0 ∨ o.kd = 1
              · have z1 : decide (o.kd ≤ 1) = true := by rw [decide_eq_true_iff]; omega
                have z2 : decide (0 ≤ o.kd) = true := by rw [decide_eq_true_iff]; omega
                by_cases hbf : p.free < b.size
                · have z3 : decide ((p.free : Int) < (b.size : Int)) = true := by rw [decide_eq_true_iff]; omega
                  have z3' : decide (p.free < b.size) = true := decide_eq_true hbf
                  have HSAM := Lib.hid (HSA.out (HRF.out h01 hbf))
                  generalize p.free = pf at *
                  clear h01 hbf h7 h9
                  go_wp2_with (first
                    | (go_at_call 24; (with_reducible refine (HSAM.out _ (HBB.out.trans (hb14.mono HBB.out.size))).mono ?_); rintro e w15 ⟨rfl, hb15⟩)
                    | (go_at_call 23; (with_reducible refine HWF12.out.mono ?_); rintro e w14 ⟨rfl, hb14⟩)
                    | (go_at_call 22; (with_reducible refine (HSH.out _).mono ?_); rintro e w13 ⟨rfl, hw13⟩; have hw13' := hw13.symm; subst hw13'))
                  obtain ⟨hz1, hz2⟩ := HEND.out w15 ((HBB.out.trans (hb14.mono HBB.out.size)).trans (hb15.mono (Below.size (HBB.out.trans (hb14.mono HBB.out.size)))))
                  have HZ1 := Lib.hid hz1
                  have HZ2 := Lib.hid hz2
                  clear hz1 hz2 hb14 hb15
                  go_roundw
                  case rel => exact ⟨i + 1, D9, v9, p2, by omega, by go_num, HZ1.out, HFT.out, HZ2.out⟩
                  case measure => simp [RowKit.intOf]; omega
                · have z3 : decide ((p.free : Int) < (b.size : Int)) = false := by rw [decide_eq_false_iff_not]; omega
                  have z3' : decide (p.free < b.size) = false := decide_eq_false hbf
                  generalize p.free = pf at *
                  clear h01 hbf h7 h9
                  go_wp2_with (first
                    | (go_at_call 23; (with_reducible refine HWF12.out.mono ?_); rintro e w14 ⟨rfl, hb14⟩)
                    | (go_at_call 22; (with_reducible refine (HSH.out _).mono ?_); rintro e w13 ⟨rfl, hw13⟩; have hw13' := hw13.symm; subst hw13'))
                  obtain ⟨hz1, hz2⟩ := HEND.out w14 (HBB.out.trans (hb14.mono HBB.out.size))
                  have HZ1 := Lib.hid hz1
                  have HZ2 := Lib.hid hz2
                  clear hz1 hz2 hb14
                  go_roundw
                  case rel => exact ⟨i + 1, D9, v9, p2, by omega, by go_num, HZ1.out, HFT.out, HZ2.out⟩
                  case measure => simp [RowKit.intOf]; omega
              · obtain ⟨hz1, hz2⟩ := HEND.out w12 HBB.out
                have HZ1 := Lib.hid hz1
                have HZ2 := Lib.hid hz2
                by_cases hneg : o.kd < 0
                · have z1 : decide (o.kd ≤ 1) = true := by rw [decide_eq_true_iff]; omega
                  have z2 : decide (0 ≤ o.kd) = false := by rw [decide_eq_false_iff_not]; omega
                  clear h01 hneg h7 h9 hz1 hz2
                  go_wp2_with (go_at_call 22; (with_reducible refine (HSH.out _).mono ?_); rintro e w13 ⟨rfl, hw13⟩; have hw13' := hw13.symm; subst hw13')
                  go_roundw
                  case rel => exact ⟨i + 1, D9, v9, p2, by omega, by go_num, HZ1.out, HFT.out, HZ2.out⟩
                  case measure => simp [RowKit.intOf]; omega
                · have z1 : decide (o.kd ≤ 1) = false := by rw [decide_eq_false_iff_not]; omega
                  clear h01 hneg h7 h9 hz1 hz2
                  go_wp2_with (go_at_call 22; (with_reducible refine (HSH.out _).mono ?_); rintro e w13 ⟨rfl, hw13⟩; have hw13' := hw13.symm; subst hw13')
                  go_roundw
                  case rel => exact ⟨i + 1, D9, v9, p2, by omega, by go_num, HZ1.out, HFT.out, HZ2.out⟩
                  case measure => simp [RowKit.intOf]; omega
      · have d8 : decide ((i : Int) < (n : Int)) = false := by rw [decide_eq_false_iff_not]; omega
        go_wp2_with (go_at_call 8; (with_reducible refine (awake4_any _).mono ?_); rintro e w7 ⟨rfl, hb7⟩)
        go_ret
        exact ⟨rfl, HB.out.trans (hb7.mono HB.out.size)⟩
end Go.Proofs.Ytebkgcnldbkgeaa
