/-
  The document's disk: a file is taken out, a file is put in.
-/
import Derived.Test.YtebkgcnldbkgeaaDpD
import Derived.Test.YtebkgcnldbkgeaaDpA
import Derived.Test.YtebkgcnldbkgeaaDpB
namespace Go.Proofs.Ytebkgcnldbkgeaa
open Go.RowKit Go.Lib Go.Sort Go.Maps
set_option linter.unusedVariables false
set_option linter.unusedSimpArgs false

theorem key_iff {f : Fl} {s : ByteArray} : f.key = s.data.toList ↔ f.name = s := ⟨fun e => key_name e, fun e => by rw [← e]; rfl⟩
theorem delF_step (s : ByteArray) (F : List Fl) (j : Nat) (hj : j < F.length) : delF s (F.drop j) = (if (F.getD j default).name = s then [] else [F.getD j default]) ++ delF s (F.drop (j + 1)) := by
  have e : F.drop j = F.getD j default :: F.drop (j + 1) := by
    rw [List.drop_eq_getElem_cons hj, List.getD_eq_getElem?_getD, List.getElem?_eq_getElem hj]
    rfl
  rw [e]
  generalize F.getD j default = x
  unfold delF
  rw [List.filter_cons]
  by_cases h : x.name = s
  · rw [if_pos h, decide_eq_true (key_iff.2 h)]; rfl
  · rw [if_neg h, decide_eq_false (fun e => h (key_iff.1 e))]; rfl
theorem fcs_snoc (C : List Fl) (f : Fl) {w : World} {base : Nat} {v : Value} (h : w.ownsRow base 84 3 v (C.length + 1) (fcs C ++ [.string f.name, .string (bst f.b), .int .i64 (f.kept : Int)])) : w.ownsRow base 84 3 v (C ++ [f]).length (fcs (C ++ [f])) := by
  rw [fcs_append, List.length_append]
  simpa [fcs, Fl.cells] using h
theorem fcs_snocM (C : List Fl) (f : Fl) {w : World} {base m : Nat} {v : Value} (hm : C.length = m) (h : w.ownsRow base 84 3 v (m + 1) (fcs C ++ [.string f.name, .string (bst f.b), .int .i64 (f.kept : Int)])) : w.ownsRow base 84 3 v (C ++ [f]).length (fcs (C ++ [f])) := by
  subst hm
  exact fcs_snoc C f h
set_option maxRecDepth 100000 in
set_option maxHeartbeats 4000000 in
theorem rwithout_any (base r : Nat) (v : Value) (p : PD) (s : ByteArray) (w : World) (h : Rk w base r v p) (hF128 : p.F.length ≤ 200) (hb : base ≤ w.heap.size) :
    Calls Try.prog 67 #[.pointer (some ⟨r, 0, none⟩), .string s] w fun e w' => e = .returned (.tuple #[]) ∧ ∃ v', RT base r w w' v v' { p with F := delF s p.F } := by
  obtain ⟨k0, qk0, qz0, qz1, qz2⟩ := info_parts zero_rfile
  obtain ⟨X, hX⟩ : ∃ X : Ending → World → Prop, (fun e w' => e = .returned (.tuple #[]) ∧ ∃ v', RT base r w w' v v' { p with F := delF s p.F }) = X := ⟨_, rfl⟩
  have HX : Hid (∀ W v', Below w.heap.size w W → W.ownsRow w.heap.size 84 3 v' (delF s p.F).length (fcs (delF s p.F)) → X (.returned (.tuple #[])) (W.setCell ⟨r, 1, none⟩ v')) := fun W v' h1 h2 => by rw [← hX]; exact ⟨rfl, v', h.files h1 hb h2⟩
  rw [hX]
  clear hX
  obtain ⟨A, c, rfl, _, _, hF⟩ := Ths.of_row h.row rfl
  have HF := Lib.hid hF
  have c1 := h.c1
  have hrl := h.rlt
  have HBLK := Lib.hid h.blk
  have HKS : Hid (∀ j, j < p.F.length → delF s (p.F.drop j) = (if (p.F.getD j default).name = s then [] else [p.F.getD j default]) ++ delF s (p.F.drop (j + 1))) := fun j hj => delF_step s p.F j hj
  have HKE : Hid (delF s (p.F.drop p.F.length) = []) := by show _ = _; rw [List.drop_length]; rfl
  have HK0 : Hid (delF s (p.F.drop 0) = delF s p.F) := rfl
  have HKL : Hid ((delF s p.F).length ≤ p.F.length) := List.length_filter_le _ _
  generalize p.room = room at *
  generalize p.lf = lf at *
  generalize p.burnt = gn at *
  generalize p.F = F at *
  generalize delF s F = NK at *
  obtain ⟨D, hD⟩ : ∃ D : Nat → List Fl, ∀ j, D j = delF s (F.drop j) := ⟨_, fun _ => rfl⟩
  simp only [← hD] at HKS HKE HK0
  generalize hn : F.length = n at *
  clear hD h hF hn
  go_enter Try.func67, Try.ntmps67
  go_wp2_with fail
  clear c1
  generalize hw0 : w = w0 at *
  clear hw0
  go_loopw [4, 12] (fun o jv ws => ∃ j : Nat, j ≤ n ∧ jv = .int .i64 j ∧ ∃ C : List Fl, Hid (C ++ D j = NK) ∧ Hid (ws.ownsRow w0.heap.size 84 3 o C.length (fcs C)) ∧ Hid (Below w0.heap.size w0 ws)) (fun _ jv _ => n - (RowKit.intOf jv).toNat)
  case atStart => exact ⟨0, by omega, rfl, [], by show _ = _; rw [HK0.out]; rfl, World.ownsRow_nil _ _ _ _, Below.refl _ _⟩
  case round =>
    obtain ⟨j, hj, rfl, C, HC, HO, HB⟩ := hrel
    have hCL : C.length ≤ 200 := by have e := congrArg List.length HC.out; have := HKL.out; rw [List.length_append] at e; omega
    have hzw := HB.out.size
    by_cases hjt : j < n
    · obtain ⟨q, rfl, _, s0, s1, s2⟩ := Fs.row (HF.out.below HB.out) hjt
      have HSJ := Lib.hid (HKS.out j hjt)
      generalize F.getD j default = xe at *
      obtain ⟨xn, xb, xk⟩ := xe
      simp only at s0 s1 s2 HSJ
      obtain ⟨sb, hsb⟩ : ∃ x, bst xb = x := ⟨_, rfl⟩
      rw [hsb] at s1
      have HSB := Lib.hid hsb
      have hjz : (j : Int) < (n : Int) := by omega
      have hal2 := (Below.refl wr.heap.size wr).alloc (Nat.le_refl _) (.cells #[.string xn, .string sb, .int .i64 (xk : Int)] 84)
      have hN2 := heap_alloc_new wr (.cells #[.string xn, .string sb, .int .i64 (xk : Int)] 84)
      have HO6 := Lib.hid (HO.out.alloc (.cells #[.string xn, .string sb, .int .i64 (xk : Int)] 84))
      obtain ⟨w6, hw6⟩ : ∃ w6, wr.alloc (.cells #[.string xn, .string sb, .int .i64 (xk : Int)] 84) = w6 := ⟨_, rfl⟩
      rw [hw6] at hal2 hN2 HO6
      have HW6 := Lib.hid hw6
      have HB6 := Lib.hid (HB.out.trans (hal2.mono hzw))
      clear hw6 hal2 hsb
      go_upto_region 4 with fail
      rw [HW6.out]
      have t0 := cell_of_row _ _ 0 _ _ _ hN2
      have t1 := cell_of_row _ _ 1 _ _ _ hN2
      have t2 := cell_of_row _ _ 2 _ _ _ hN2
      have hz6 : w0.heap.size ≤ w6.heap.size := HB6.out.size
      clear s0 s1 s2 hN2
      by_cases he : xn = s
      · have e1 : (xn.toList == s.toList) = true := by rw [he]; simp
        have e2 : (xn.toList != s.toList) = false := by rw [he]; simp
        have HX2 : Hid (C ++ D (j + 1) = NK) := by have e := HC.out; rw [HSJ.out, if_pos he] at e; exact e
        clear he HSJ
        go_wp2_with fail
        go_roundw
        case rel => exact ⟨j + 1, by omega, by go_num, C, HX2, HO6, HB6⟩
        case measure => simp [RowKit.intOf]; omega
      · have hne : xn.toList ≠ s.toList := fun e => he (str_eq.1 e)
        have e1 : (xn.toList == s.toList) = false := by simpa using hne
        have e2 : (xn.toList != s.toList) = true := by simpa using hne
        have HX2 : Hid ((C ++ [⟨xn, xb, xk⟩]) ++ D (j + 1) = NK) := by have e := HC.out; rw [HSJ.out, if_neg he] at e; rw [List.append_assoc]; exact e
        have hown8 := HO6.out.alloc (.cells #[.string xn, .string sb, .int .i64 (xk : Int)] 84)
        clear he hne HSJ
        go_wp2_with (at_builtin; go_loud (refine wpList_append_own_at _ rfl (.tmp 20) (.tmp 22) 76 rfl w0.heap.size 84 k0 _ 3 40 Try.underlying76 qk0 qz0 qz1 qz2 rfl (by decide) _ C.length (fcs C) rfl hown8 ⟨w6.heap.size, 0, none⟩ 1 1 [.string xn, .string sb, .int .i64 (xk : Int)] rfl rfl (new_cellsF w6 [.string xn, .string sb, .int .i64 (xk : Int)] _) ?g1 ?g2 ?g3 ?g4 ?_))
        case g1 => first | exact ⟨rfl, rfl, rfl⟩ | (intro u hu; simp at hu; rcases hu with rfl | rfl | rfl <;> rfl)
        case g2 => unfold maxLen; omega
        case g3 => omega
        case g4 => first | omega | (simp; omega)
        intro va w7 hown7 hg7 _ _
        have HO7 : Hid (w7.ownsRow w0.heap.size 84 3 va (C ++ [(⟨xn, xb, xk⟩ : Fl)]).length (fcs (C ++ [(⟨xn, xb, xk⟩ : Fl)]))) := fcs_snoc C ⟨xn, xb, xk⟩ (by show World.ownsRow _ _ _ _ _ _ (_ ++ [_, .string (bst xb), _]); rw [HSB.out]; exact hown7)
        have HB7 := Lib.hid ((HB6.out.alloc HB6.out.size _).trans ((Below.refl _ _).grown hg7 (by have := HB6.out.size; simp; omega) (fun q hq => (World.ownsRow.lt hown8 q hq).1)))
        clear hown8 hown7 hg7 t0 t1 t2
        go_wp2_with fail
        go_roundw
        case rel => exact ⟨j + 1, by omega, by go_num, C ++ [⟨xn, xb, xk⟩], HX2, HO7, HB7⟩
        case measure => simp [RowKit.intOf]; omega
    · have d9 : decide ((j : Int) < (n : Int)) = false := by rw [decide_eq_false_iff_not]; omega
      obtain rfl : j = n := by omega
      have HCN : Hid (C = NK) := by have e := HC.out; rw [HKE.out, List.append_nil] at e; exact e
      obtain ⟨A7, c7, rfl, _, _⟩ := row_anyF HO.out
      have hbx := (HB.out.block r hrl).trans HBLK.out
      have c1 := cell_of_row _ _ 1 _ _ _ hbx
      have f1 := frozen_of_row _ r 1 _ _ hbx
      have HE := Lib.hid (HX.out wr (.slice A7 C.length c7) HB.out (by have := HO.out; rw [← HCN.out]; exact this))
      clear hbx
      go_wp2_with fail
      first
        | exact HE.out
        | (go_end0; exact HE.out)
end Go.Proofs.Ytebkgcnldbkgeaa
