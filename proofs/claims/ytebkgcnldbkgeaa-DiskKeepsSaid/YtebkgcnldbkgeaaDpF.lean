/-
  The document's disk: a file is put in, at its place.
-/
import Derived.Test.YtebkgcnldbkgeaaDpE
namespace Go.Proofs.Ytebkgcnldbkgeaa
open Go.RowKit Go.Lib Go.Sort Go.Maps
set_option linter.unusedVariables false
set_option linter.unusedSimpArgs false

theorem bl_eq : ∀ a b : List UInt8, Op.bytesLess a b = bytesBefore a b
  | [], [] => rfl
  | [], _ :: _ => rfl
  | _ :: _, [] => rfl
  | a :: r, b :: s => by unfold Op.bytesLess bytesBefore; rw [bl_eq r s]
theorem bl_gt {a b : ByteArray} (h : Op.bytesLess a.toList b.toList = true) : Op.bytesLess b.toList a.toList = false ∧ (b.toList == a.toList) = false := by
  rw [bl_eq] at h ⊢
  constructor
  · cases h2 : bytesBefore b.toList a.toList with
    | false => rfl
    | true => have := WideShapes.bytes_trans _ _ _ h h2; rw [WideAt.bytes_irrefl] at this; cases this
  · rw [beq_eq_false_iff_ne]
    intro e
    rw [e, WideAt.bytes_irrefl] at h
    cases h
theorem bl_ngt {a b : ByteArray} (h : Op.bytesLess a.toList b.toList = false) : (Op.bytesLess b.toList a.toList = false ∧ (b.toList == a.toList) = true) ∨ Op.bytesLess b.toList a.toList = true := by
  by_cases e : b.toList = a.toList
  · refine .inl ⟨?_, by simpa using e⟩
    rw [bl_eq, e, WideAt.bytes_irrefl]
  · refine .inr ?_
    rw [bl_eq] at h ⊢
    rcases WideAt.bytes_total _ _ e with h2 | h2
    · exact h2
    · rw [h] at h2; cases h2
def insF (x : Fl) (F : List Fl) : List Fl := insT Fl.key x F
theorem insF_step (x : Fl) (F : List Fl) (j : Nat) (hj : j < F.length) : insF x (F.drop j) = if Op.bytesLess x.name.toList (F.getD j default).name.toList = true then x :: F.drop j else F.getD j default :: insF x (F.drop (j + 1)) := by
  have e : F.drop j = F.getD j default :: F.drop (j + 1) := by
    rw [List.drop_eq_getElem_cons hj, List.getD_eq_getElem?_getD, List.getElem?_eq_getElem hj]
    rfl
  rw [e]
  generalize F.getD j default = y
  rw [bl_eq, ByteArray.toList_eq, ByteArray.toList_eq]
  show insT _ _ _ = _
  unfold insT
  rfl
theorem drop_getD (F : List Fl) (j : Nat) (hj : j < F.length) : F.drop j = F.getD j default :: F.drop (j + 1) := by
  rw [List.drop_eq_getElem_cons hj, List.getD_eq_getElem?_getD, List.getElem?_eq_getElem hj]
  rfl
/-- what the rest of the way puts behind -/
def restF (b : Bool) (x : Fl) (F : List Fl) : List Fl := if b = true then F else insF x F
set_option maxRecDepth 100000 in
set_option maxHeartbeats 8000000 in
theorem rwith_any (base r : Nat) (v : Value) (p : PD) (x : Fl) (w : World) (h : Rk w base r v p) (hF128 : p.F.length ≤ 200) (hb : base ≤ w.heap.size) :
    Calls Try.prog 63 #[.pointer (some ⟨r, 0, none⟩), .agg #[.string x.name, .string (bst x.b), .int .i64 (x.kept : Int)]] w fun e w' => e = .returned (.tuple #[]) ∧ ∃ v', RT base r w w' v v' { p with F := insF x p.F } := by
  obtain ⟨k0, qk0, qz0, qz1, qz2⟩ := info_parts zero_rfile
  obtain ⟨X, hX⟩ : ∃ X : Ending → World → Prop, (fun e w' => e = .returned (.tuple #[]) ∧ ∃ v', RT base r w w' v v' { p with F := insF x p.F }) = X := ⟨_, rfl⟩
  have HX : Hid (∀ W v', Below w.heap.size w W → W.ownsRow w.heap.size 84 3 v' (insF x p.F).length (fcs (insF x p.F)) → X (.returned (.tuple #[])) (W.setCell ⟨r, 1, none⟩ v')) := fun W v' h1 h2 => by rw [← hX]; exact ⟨rfl, v', h.files h1 hb h2⟩
  rw [hX]
  clear hX
  obtain ⟨A, c, rfl, _, _, hF⟩ := Ths.of_row h.row rfl
  have HF := Lib.hid hF
  have hrl := h.rlt
  have HBLK := Lib.hid h.blk
  have HKS : Hid (∀ j, j < p.F.length → (restF true x (p.F.drop j) = p.F.getD j default :: restF true x (p.F.drop (j + 1))) ∧ (Op.bytesLess x.name.toList (p.F.getD j default).name.toList = true → restF false x (p.F.drop j) = x :: p.F.getD j default :: restF true x (p.F.drop (j + 1))) ∧ (Op.bytesLess x.name.toList (p.F.getD j default).name.toList = false → restF false x (p.F.drop j) = p.F.getD j default :: restF false x (p.F.drop (j + 1)))) := fun j hj => by
    unfold restF
    simp only [if_true, Bool.false_eq_true, if_false, ↓reduceIte]
    refine ⟨drop_getD _ _ hj, fun e => ?_, fun e => ?_⟩
    · rw [insF_step x p.F j hj, if_pos e, drop_getD _ _ hj]
    · rw [insF_step x p.F j hj, if_neg (by rw [e]; simp)]
  have HKE : Hid (restF true x (p.F.drop p.F.length) = [] ∧ restF false x (p.F.drop p.F.length) = [x]) := by rw [List.drop_length]; exact ⟨rfl, rfl⟩
  have HK0 : Hid (restF false x (p.F.drop 0) = insF x p.F) := rfl
  have HKL : Hid ((insF x p.F).length ≤ p.F.length + 1) := by show _ ≤ _; unfold insF; rw [insT_length]; exact Nat.le_refl _
  have HBX : Hid (Below w.heap.size w (w.alloc (.cells #[.string x.name, .string (bst x.b), .int .i64 (x.kept : Int)] 84))) := (Below.refl _ _).alloc (Nat.le_refl _) _
  have HNX := Lib.hid (heap_alloc_new w (.cells #[.string x.name, .string (bst x.b), .int .i64 (x.kept : Int)] 84))
  have c1 := (HBX.out.cell (p := ⟨r, 1, none⟩) hrl).trans h.c1
  generalize p.room = room at *
  generalize p.lf = lf at *
  generalize p.burnt = gn at *
  generalize p.F = F at *
  generalize insF x F = NK at *
  obtain ⟨D, hD⟩ : ∃ D : Bool → Nat → List Fl, ∀ b j, D b j = restF b x (F.drop j) := ⟨_, fun _ _ => rfl⟩
  simp only [← hD] at HKS HKE HK0
  obtain ⟨n, hn⟩ : ∃ n, F.length = n := ⟨_, rfl⟩
  rw [hn] at HF c1 HKS HKE HKL hF128
  obtain ⟨XN, XB, XK⟩ := x
  simp only at HKS HNX HBX c1 ⊢
  obtain ⟨SB, hSB⟩ : ∃ s, bst XB = s := ⟨_, rfl⟩
  rw [hSB] at HNX HBX c1 ⊢
  have HSX := Lib.hid hSB
  obtain ⟨w5, hw5⟩ : ∃ w5, w.alloc (.cells #[.string XN, .string SB, .int .i64 (XK : Int)] 84) = w5 := ⟨_, rfl⟩
  rw [hw5] at HBX HNX c1
  have HW5 := Lib.hid hw5
  have hxl : w.heap.size < w5.heap.size := (Array.getElem?_eq_some_iff.1 HNX.out).1
  have hn' := hn
  have HBLK5 : Hid (w.heap.size ≤ w5.heap.size ∧ r < w.heap.size) := ⟨HBX.out.size, hrl⟩
  obtain ⟨xq, hxq⟩ : ∃ xq, w.heap.size = xq := ⟨_, rfl⟩
  clear hD h hF hn hn' hSB hw5
  go_enter Try.func63, Try.ntmps63
  go_upto_region 1 with fail
  rw [HW5.out]
  go_wp2_with fail
  clear c1
  rw [hxq] at HX HF HNX HBX HBLK5 hxl
  go_loopw [4, 5, 13] (fun o iv jv ws => ∃ (b : Bool) (j : Nat) (ov : Value), j ≤ n ∧ o = ov ∧ iv = .bool b ∧ jv = .int .i64 j ∧ ∃ C : List Fl, Hid (C ++ D b j = NK) ∧ Hid (ws.ownsRow w5.heap.size 84 3 ov C.length (fcs C)) ∧ Hid (Below w5.heap.size w5 ws)) (fun _ _ jv _ => n - (RowKit.intOf jv).toNat)
  case atStart => exact ⟨false, 0, _, by omega, rfl, rfl, rfl, [], by show _ = _; rw [HK0.out]; rfl, World.ownsRow_nil _ _ _ _, Below.refl _ _⟩
  case round =>
    obtain ⟨b, j, o, hj, hov, rfl, rfl, C, HC, HO, HB⟩ := hrel
    have hov' := hov.symm
    subst hov'
    clear hov
    have hCL : C.length ≤ 201 := by have e := congrArg List.length HC.out; have := HKL.out; rw [List.length_append] at e; omega
    have hzw := HB.out.size
    by_cases hjt : j < n
    · obtain ⟨q, rfl, _, s0, s1, s2⟩ := Fs.row ((HF.out.below HBX.out).below (HB.out.mono (Nat.le_of_lt hxl))) hjt
      have HSJ := Lib.hid (HKS.out j hjt)
      generalize F.getD j default = xe at *
      obtain ⟨xn, xb, xk⟩ := xe
      simp only at s0 s1 s2 HSJ
      obtain ⟨sb, hsb⟩ : ∃ x, bst xb = x := ⟨_, rfl⟩
      rw [hsb] at s1
      have HSB := Lib.hid hsb
      have hjz : (j : Int) < (n : Int) := by omega
      have hal2 := (Below.refl wr.heap.size wr).alloc (Nat.le_refl _) (.cells #[.string xn, .string sb, .int .i64 (xk : Int)] 84)
      have hN2 := heap_alloc_new wr (.cells #[.string xn, .string sb, .int .i64 (xk : Int)] 84)
      have HO6 := Lib.hid (HO.out.alloc (.cells #[.string xn, .string sb, .int .i64 (xk : Int)] 84))
      have HNE : Hid (o.ownBlock ≠ some wr.heap.size) := fun e => by have := (World.ownsRow.lt HO.out _ e).2; omega
      obtain ⟨w6, hw6⟩ : ∃ w6, wr.alloc (.cells #[.string xn, .string sb, .int .i64 (xk : Int)] 84) = w6 := ⟨_, rfl⟩
      rw [hw6] at hal2 hN2 HO6
      have HW6 := Lib.hid hw6
      have HB6 := Lib.hid (HB.out.trans (hal2.mono hzw))
      clear hw6 hal2 hsb
      go_upto_region 6 with fail
      rw [HW6.out]
      have t0 := cell_of_row _ _ 0 _ _ _ hN2
      have t1 := cell_of_row _ _ 1 _ _ _ hN2
      have t2 := cell_of_row _ _ 2 _ _ _ hN2
      have hx6 := (HB6.out.block xq hxl).trans HNX.out
      have x0 := cell_of_row _ _ 0 _ _ _ hx6
      have x1 := cell_of_row _ _ 1 _ _ _ hx6
      have x2 := cell_of_row _ _ 2 _ _ _ hx6
      have hz6 : w5.heap.size ≤ w6.heap.size := HB6.out.size
      have HN2 := Lib.hid hN2
      clear s0 s1 s2 hx6 hN2
      generalize hwq : wr.heap.size = wq at *
      clear hwq
      cases b with
      | true =>
        have HX2 : Hid ((C ++ [⟨xn, xb, xk⟩]) ++ D true (j + 1) = NK) := by have e := HC.out; rw [HSJ.out.1] at e; rw [List.append_assoc]; exact e
        clear x0 x1 x2 HSJ
        have hown8 := HO6.out.alloc (.cells #[.string xn, .string sb, .int .i64 (xk : Int)] 84)
        have hcl8 : (C).length ≤ 203 := by first | omega | (simp; omega)
        go_wp2_with (at_builtin; go_loud (refine wpList_append_own_at _ rfl (.tmp 30) (.tmp 32) 76 rfl w5.heap.size 84 k0 _ 3 40 Try.underlying76 qk0 qz0 qz1 qz2 rfl (by decide) _ (C).length (fcs (C)) rfl hown8 ⟨w6.heap.size, 0, none⟩ 1 1 [.string xn, .string sb, .int .i64 (xk : Int)] rfl rfl (new_cellsF w6 [.string xn, .string sb, .int .i64 (xk : Int)] _) ?g1 ?g2 ?g3 ?g4 ?_))
        case g1 => first | exact ⟨rfl, rfl, rfl⟩ | (intro u hu; simp at hu; rcases hu with rfl | rfl | rfl <;> rfl)
        case g2 => unfold maxLen; omega
        case g3 => omega
        case g4 => have := HB6.out.size; first | omega | (simp; omega)
        intro va7 w7 hown7 hg7 _ _
        have HO7 : Hid (w7.ownsRow w5.heap.size 84 3 va7 (C ++ [(⟨xn, xb, xk⟩ : Fl)]).length (fcs (C ++ [(⟨xn, xb, xk⟩ : Fl)]))) := fcs_snocM (m := _) (C) ⟨xn, xb, xk⟩ (by first | rfl | simp) (by show World.ownsRow _ _ _ _ _ _ (_ ++ [_, .string (bst xb), _]); rw [HSB.out]; exact hown7)
        have HB7 := Lib.hid ((HB6.out.alloc HB6.out.size _).trans ((Below.refl _ _).grown hg7 (by have := HB6.out.size; simp; omega) (fun q hq => (World.ownsRow.lt hown8 q hq).1)))
        clear hown8 hown7 hg7 t0 t1 t2
        go_wp2_with fail
        go_roundw
        case rel => exact ⟨true, j + 1, _, by omega, rfl, rfl, by go_num, C ++ [⟨xn, xb, xk⟩], HX2, HO7, HB7⟩
        case measure => simp [RowKit.intOf]; omega
      | false =>
        cases hlt : Op.bytesLess XN.toList xn.toList with
        | true =>
          obtain ⟨e1, e2⟩ := bl_gt hlt
          have HX2 : Hid ((C ++ [⟨XN, XB, XK⟩] ++ [⟨xn, xb, xk⟩]) ++ D true (j + 1) = NK) := by have e := HC.out; rw [HSJ.out.2.1 hlt] at e; rw [List.append_assoc, List.append_assoc]; exact e
          clear HSJ
          have hown8 := HO6.out.alloc (.cells #[.string XN, .string SB, .int .i64 (XK : Int)] 84)
          have hcl8 : (C).length ≤ 203 := by first | omega | (simp; omega)
          go_wp2_with (at_builtin; go_loud (refine wpList_append_own_at _ rfl (.tmp 26) (.tmp 28) 76 rfl w5.heap.size 84 k0 _ 3 40 Try.underlying76 qk0 qz0 qz1 qz2 rfl (by decide) _ (C).length (fcs (C)) rfl hown8 ⟨w6.heap.size, 0, none⟩ 1 1 [.string XN, .string SB, .int .i64 (XK : Int)] rfl rfl (new_cellsF w6 [.string XN, .string SB, .int .i64 (XK : Int)] _) ?g1 ?g2 ?g3 ?g4 ?_))
          case g1 => first | exact ⟨rfl, rfl, rfl⟩ | (intro u hu; simp at hu; rcases hu with rfl | rfl | rfl <;> rfl)
          case g2 => unfold maxLen; omega
          case g3 => omega
          case g4 => have := HB6.out.size; first | omega | (simp; omega)
          intro va7 w7 hown7 hg7 _ _
          have HO7 : Hid (w7.ownsRow w5.heap.size 84 3 va7 (C ++ [(⟨XN, XB, XK⟩ : Fl)]).length (fcs (C ++ [(⟨XN, XB, XK⟩ : Fl)]))) := fcs_snocM (m := _) (C) ⟨XN, XB, XK⟩ (by first | rfl | simp) (by show World.ownsRow _ _ _ _ _ _ (_ ++ [_, .string (bst XB), _]); rw [HSX.out]; exact hown7)
          have HB7 := Lib.hid ((HB6.out.alloc HB6.out.size _).trans ((Below.refl _ _).grown hg7 (by have := HB6.out.size; simp; omega) (fun q hq => (World.ownsRow.lt hown8 q hq).1)))
          have hfl6 : wq < w6.heap.size := (Array.getElem?_eq_some_iff.1 HN2.out).1
          have HN7 : Hid (w7.heap[wq]? = some (.cells #[.string xn, .string sb, .int .i64 (xk : Int)] 84 (0, 0))) := (hg7.block wq (by simp; omega) (fun e => HNE.out e.symm)).trans ((Below.heap_alloc _ _ _ hfl6).trans HN2.out)
          clear hown8 hown7 hg7 t0 t1 t2 x0 x1 x2
          have t0 := cell_of_row _ _ 0 _ _ _ HN7.out
          have t1 := cell_of_row _ _ 1 _ _ _ HN7.out
          have t2 := cell_of_row _ _ 2 _ _ _ HN7.out
          have hz7 : w5.heap.size ≤ w7.heap.size := HB7.out.size
          clear hcl8
          have hown9 := HO7.out.alloc (.cells #[.string xn, .string sb, .int .i64 (xk : Int)] 84)
          have hcl8 : (C ++ [(⟨XN, XB, XK⟩ : Fl)]).length ≤ 203 := by first | omega | (simp; omega)
          go_wp2_with (at_builtin; go_loud (refine wpList_append_own_at _ rfl (.tmp 30) (.tmp 32) 76 rfl w5.heap.size 84 k0 _ 3 40 Try.underlying76 qk0 qz0 qz1 qz2 rfl (by decide) _ (C ++ [(⟨XN, XB, XK⟩ : Fl)]).length (fcs (C ++ [(⟨XN, XB, XK⟩ : Fl)])) rfl hown9 ⟨w7.heap.size, 0, none⟩ 1 1 [.string xn, .string sb, .int .i64 (xk : Int)] rfl rfl (new_cellsF w7 [.string xn, .string sb, .int .i64 (xk : Int)] _) ?g1 ?g2 ?g3 ?g4 ?_))
          case g1 => first | exact ⟨rfl, rfl, rfl⟩ | (intro u hu; simp at hu; rcases hu with rfl | rfl | rfl <;> rfl)
          case g2 => unfold maxLen; omega
          case g3 => omega
          case g4 => have := HB7.out.size; first | omega | (simp; omega)
          intro va8 w8 hown8 hg8 _ _
          have HO8 : Hid (w8.ownsRow w5.heap.size 84 3 va8 (C ++ [(⟨XN, XB, XK⟩ : Fl)] ++ [(⟨xn, xb, xk⟩ : Fl)]).length (fcs (C ++ [(⟨XN, XB, XK⟩ : Fl)] ++ [(⟨xn, xb, xk⟩ : Fl)]))) := fcs_snocM (m := C.length + 1) (C ++ [(⟨XN, XB, XK⟩ : Fl)]) ⟨xn, xb, xk⟩ (by first | rfl | simp) (by show World.ownsRow _ _ _ _ _ _ (_ ++ [_, .string (bst xb), _]); rw [HSB.out]; exact hown8)
          have HB8 := Lib.hid ((HB7.out.alloc HB7.out.size _).trans ((Below.refl _ _).grown hg8 (by have := HB7.out.size; simp; omega) (fun q hq => (World.ownsRow.lt hown9 q hq).1)))
          clear hown9 hown8 hg8 t0 t1 t2
          go_wp2_with fail
          go_roundw
          case rel => exact ⟨true, j + 1, _, by omega, rfl, rfl, by go_num, C ++ [⟨XN, XB, XK⟩] ++ [⟨xn, xb, xk⟩], HX2, HO8, HB8⟩
          case measure => simp [RowKit.intOf]; omega
        | false =>
          have HX2 : Hid ((C ++ [⟨xn, xb, xk⟩]) ++ D false (j + 1) = NK) := by have e := HC.out; rw [HSJ.out.2.2 hlt] at e; rw [List.append_assoc]; exact e
          clear HSJ
          rcases bl_ngt hlt with ⟨e1, e2⟩ | e1
          ·
            have hown8 := HO6.out.alloc (.cells #[.string xn, .string sb, .int .i64 (xk : Int)] 84)
            have hcl8 : (C).length ≤ 203 := by first | omega | (simp; omega)
            go_wp2_with (at_builtin; go_loud (refine wpList_append_own_at _ rfl (.tmp 30) (.tmp 32) 76 rfl w5.heap.size 84 k0 _ 3 40 Try.underlying76 qk0 qz0 qz1 qz2 rfl (by decide) _ (C).length (fcs (C)) rfl hown8 ⟨w6.heap.size, 0, none⟩ 1 1 [.string xn, .string sb, .int .i64 (xk : Int)] rfl rfl (new_cellsF w6 [.string xn, .string sb, .int .i64 (xk : Int)] _) ?g1 ?g2 ?g3 ?g4 ?_))
            case g1 => first | exact ⟨rfl, rfl, rfl⟩ | (intro u hu; simp at hu; rcases hu with rfl | rfl | rfl <;> rfl)
            case g2 => unfold maxLen; omega
            case g3 => omega
            case g4 => have := HB6.out.size; first | omega | (simp; omega)
            intro va7 w7 hown7 hg7 _ _
            have HO7 : Hid (w7.ownsRow w5.heap.size 84 3 va7 (C ++ [(⟨xn, xb, xk⟩ : Fl)]).length (fcs (C ++ [(⟨xn, xb, xk⟩ : Fl)]))) := fcs_snocM (m := _) (C) ⟨xn, xb, xk⟩ (by first | rfl | simp) (by show World.ownsRow _ _ _ _ _ _ (_ ++ [_, .string (bst xb), _]); rw [HSB.out]; exact hown7)
            have HB7 := Lib.hid ((HB6.out.alloc HB6.out.size _).trans ((Below.refl _ _).grown hg7 (by have := HB6.out.size; simp; omega) (fun q hq => (World.ownsRow.lt hown8 q hq).1)))
            clear hown8 hown7 hg7 t0 t1 t2 x0 x1 x2
            go_wp2_with fail
            go_roundw
            case rel => exact ⟨false, j + 1, _, by omega, rfl, rfl, by go_num, C ++ [⟨xn, xb, xk⟩], HX2, HO7, HB7⟩
            case measure => simp [RowKit.intOf]; omega
          ·
            have hown8 := HO6.out.alloc (.cells #[.string xn, .string sb, .int .i64 (xk : Int)] 84)
            have hcl8 : (C).length ≤ 203 := by first | omega | (simp; omega)
            go_wp2_with (at_builtin; go_loud (refine wpList_append_own_at _ rfl (.tmp 30) (.tmp 32) 76 rfl w5.heap.size 84 k0 _ 3 40 Try.underlying76 qk0 qz0 qz1 qz2 rfl (by decide) _ (C).length (fcs (C)) rfl hown8 ⟨w6.heap.size, 0, none⟩ 1 1 [.string xn, .string sb, .int .i64 (xk : Int)] rfl rfl (new_cellsF w6 [.string xn, .string sb, .int .i64 (xk : Int)] _) ?g1 ?g2 ?g3 ?g4 ?_))
            case g1 => first | exact ⟨rfl, rfl, rfl⟩ | (intro u hu; simp at hu; rcases hu with rfl | rfl | rfl <;> rfl)
            case g2 => unfold maxLen; omega
            case g3 => omega
            case g4 => have := HB6.out.size; first | omega | (simp; omega)
            intro va7 w7 hown7 hg7 _ _
            have HO7 : Hid (w7.ownsRow w5.heap.size 84 3 va7 (C ++ [(⟨xn, xb, xk⟩ : Fl)]).length (fcs (C ++ [(⟨xn, xb, xk⟩ : Fl)]))) := fcs_snocM (m := _) (C) ⟨xn, xb, xk⟩ (by first | rfl | simp) (by show World.ownsRow _ _ _ _ _ _ (_ ++ [_, .string (bst xb), _]); rw [HSB.out]; exact hown7)
            have HB7 := Lib.hid ((HB6.out.alloc HB6.out.size _).trans ((Below.refl _ _).grown hg7 (by have := HB6.out.size; simp; omega) (fun q hq => (World.ownsRow.lt hown8 q hq).1)))
            clear hown8 hown7 hg7 t0 t1 t2 x0 x1 x2
            go_wp2_with fail
            go_roundw
            case rel => exact ⟨false, j + 1, _, by omega, rfl, rfl, by go_num, C ++ [⟨xn, xb, xk⟩], HX2, HO7, HB7⟩
            case measure => simp [RowKit.intOf]; omega
    · have d9 : decide ((j : Int) < (n : Int)) = false := by rw [decide_eq_false_iff_not]; omega
      obtain rfl : j = n := by omega
      cases b with
      | true =>
        have HCN : Hid (C = NK) := by have e := HC.out; rw [HKE.out.1, List.append_nil] at e; exact e
        obtain ⟨A7, c7, rfl, _, _⟩ := row_anyF HO.out
        have hbx := ((HBX.out.mono (by exact Nat.le_refl _)).trans (HB.out.mono (Nat.le_of_lt hxl)) |>.block r HBLK5.out.2).trans HBLK.out
        have c1 := cell_of_row _ _ 1 _ _ _ hbx
        have f1 := frozen_of_row _ r 1 _ _ hbx
        have HE := Lib.hid (HX.out wr (.slice A7 C.length c7) (HBX.out.trans (HB.out.mono (Nat.le_of_lt hxl))) (by have := row_baseF HO.out (Nat.le_of_lt hxl); rw [← HCN.out]; exact this))
        clear hbx
        go_wp2_with fail
        first
          | exact HE.out
          | (go_end0; exact HE.out)
      | false =>
        have HCN : Hid (C ++ [⟨XN, XB, XK⟩] = NK) := by have e := HC.out; rw [HKE.out.2] at e; exact e
        have hx6 := (HB.out.block xq hxl).trans HNX.out
        have x0 := cell_of_row _ _ 0 _ _ _ hx6
        have x1 := cell_of_row _ _ 1 _ _ _ hx6
        have x2 := cell_of_row _ _ 2 _ _ _ hx6
        clear hx6
        have hown8 := HO.out.alloc (.cells #[.string XN, .string SB, .int .i64 (XK : Int)] 84)
        have hcl8 : (C).length ≤ 203 := by first | omega | (simp; omega)
        go_wp2_with (at_builtin; go_loud (refine wpList_append_own_at _ rfl (.tmp 37) (.tmp 39) 76 rfl w5.heap.size 84 k0 _ 3 40 Try.underlying76 qk0 qz0 qz1 qz2 rfl (by decide) _ (C).length (fcs (C)) rfl hown8 ⟨wr.heap.size, 0, none⟩ 1 1 [.string XN, .string SB, .int .i64 (XK : Int)] rfl rfl (new_cellsF wr [.string XN, .string SB, .int .i64 (XK : Int)] _) ?g1 ?g2 ?g3 ?g4 ?_))
        case g1 => first | exact ⟨rfl, rfl, rfl⟩ | (intro u hu; simp at hu; rcases hu with rfl | rfl | rfl <;> rfl)
        case g2 => unfold maxLen; omega
        case g3 => omega
        case g4 => have := HB.out.size; first | omega | (simp; omega)
        intro va7 w7 hown7 hg7 _ _
        have HO7 : Hid (w7.ownsRow w5.heap.size 84 3 va7 (C ++ [(⟨XN, XB, XK⟩ : Fl)]).length (fcs (C ++ [(⟨XN, XB, XK⟩ : Fl)]))) := fcs_snocM (m := _) (C) ⟨XN, XB, XK⟩ (by first | rfl | simp) (by show World.ownsRow _ _ _ _ _ _ (_ ++ [_, .string (bst XB), _]); rw [HSX.out]; exact hown7)
        have HB7 := Lib.hid ((HB.out.alloc HB.out.size _).trans ((Below.refl _ _).grown hg7 (by have := HB.out.size; simp; omega) (fun q hq => (World.ownsRow.lt hown8 q hq).1)))
        clear hown8 hown7 hg7 x0 x1 x2
        obtain ⟨A7, c7, rfl, _, _⟩ := row_anyF HO7.out
        have hbx := ((HBX.out.mono (by exact Nat.le_refl _)).trans (HB7.out.mono (Nat.le_of_lt hxl)) |>.block r HBLK5.out.2).trans HBLK.out
        have c1 := cell_of_row _ _ 1 _ _ _ hbx
        have f1 := frozen_of_row _ r 1 _ _ hbx
        have HE := Lib.hid (HX.out w7 (.slice A7 (C ++ [(⟨XN, XB, XK⟩ : Fl)]).length c7) (HBX.out.trans (HB7.out.mono (Nat.le_of_lt hxl))) (by have := row_baseF HO7.out (Nat.le_of_lt hxl); rw [← HCN.out]; exact this))
        clear hbx
        generalize (C ++ [(⟨XN, XB, XK⟩ : Fl)]).length = cl at *
        go_wp2_with fail
        first
          | exact HE.out
          | (go_end0; exact HE.out)
end Go.Proofs.Ytebkgcnldbkgeaa
