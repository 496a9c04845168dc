/-
  What towpathref03.SameAll does, of two lists of the same batches, and rec.Flat, of any batches.
-/
import Derived.Test.YtkdpfajoeajenaaGa
import Derived.Test.YtkdpfajoeajenaaRecSy
import Derived.Lib.QuietBelow
import Derived.BigQuiet
namespace Go.Proofs.Ytkdpfajoeajenaa
open Go.RowKit Go.Lib Go.Sort
set_option linter.unusedVariables false
set_option linter.unusedSimpArgs false

theorem bat_get (M : List BA) (k : Nat) : (M.map BA.b).getD k zB = (M.getD k default).b := by
  simp only [List.getD_eq_getElem?_getD, List.getElem?_map]
  cases M[k]? <;> rfl
set_option maxRecDepth 100000 in
set_option maxHeartbeats 4000000 in
theorem sameAll_yes (M M' : List BA) (A A' : Option Addr) (n c c' : Nat) (w : World) (h : Bas w w.heap.size A n M) (h' : Bas w w.heap.size A' n M') (he : M.map BA.b = M'.map BA.b) (hn : n ≤ 1000000) :
    Calls Try.prog 8 #[.slice A n c, .slice A' n c'] w fun e w' => e = .returned (.bool true) ∧ Below w.heap.size w w' := by
  have HL := Lib.hid h
  have HL' := Lib.hid h'
  have HE : Hid (∀ k, (M'.getD k default).b = (M.getD k default).b) := fun k => by show _ = _; rw [← bat_get, ← bat_get, he]
  clear h h' he
  have enn : ((n : Int) != (n : Int)) = false := by simp
  go_enter Try.func8, Try.ntmps8
  go_wp2_with fail
  go_loopw [13] (fun i wr => ∃ k : Nat, k ≤ n ∧ i = .int .i64 k ∧ Hid (Below w.heap.size w wr)) (fun i _ => n - (RowKit.intOf i).toNat)
  case atStart => exact ⟨0, by omega, rfl, Below.refl _ _⟩
  case round =>
    obtain ⟨k, hk, rfl, HB⟩ := hrel
    by_cases hlt : k < n
    · obtain ⟨p, rfl, hp, r0, r1, r2, r3, r4, r5, r6⟩ := (HL.out.below HB.out).row hlt
      obtain ⟨p', rfl, hp', s0, s1, s2, s3, s4, s5, s6⟩ := (HL'.out.below HB.out).row hlt
      obtain ⟨hx1, hx2, hx3, hx4⟩ := (HL.out.below HB.out).each k hlt
      obtain ⟨hy1, hy2, hy3, hy4⟩ := (HL'.out.below HB.out).each k hlt
      have hee := HE.out k
      generalize M.getD k default = x at *
      generalize M'.getD k default = y at *
      obtain ⟨xb, xA, xc⟩ := x
      obtain ⟨yb, yA, yc⟩ := y
      simp only at hee
      subst hee
      simp only at r0 r1 r2 r3 r4 r5 r6 s0 s1 s2 s3 s4 s5 s6 hx1 hx2 hx3 hx4 hy1
      have HSQ : Hid (∀ d os, Calls Try.prog 14 #[.agg (yb.cells xA xc), .agg (yb.cells yA yc)] (Sort.grow (redrawn wr d) os) fun e w'' => e = .returned (.bool true) ∧ ∃ p : Regrown, w'' = Sort.grow (redrawn wr p.d) p.os) := fun d os =>
        Calls.regrown_of (rsame_yes yb xA yA xc yc w.heap.size _ (hx1.below ((below_regrown wr d os).mono HB.out.size)) (hy1.below ((below_regrown wr d os).mono HB.out.size)) (Nat.le_trans HB.out.size (below_regrown wr d os).size) (by unfold maxLen; omega))
      obtain ⟨base, pid, epoch, seq, kind, time, L⟩ := yb
      simp only [Bat.cells] at HSQ r0 r1 r2 r3 r4 r5 r6 s0 s1 s2 s3 s4 s5 s6
      have g0 := cell_regrown r0
      have g1 := cell_regrown r1
      have g2 := cell_regrown r2
      have g3 := cell_regrown r3
      have g4 := cell_regrown r4
      have g5 := cell_regrown r5
      have g6 := cell_regrown r6
      have f0 := cell_regrown s0
      have f1 := cell_regrown s1
      have f2 := cell_regrown s2
      have f3 := cell_regrown s3
      have f4 := cell_regrown s4
      have f5 := cell_regrown s5
      have f6 := cell_regrown s6
      have hkz : (k : Int) < (n : Int) := by omega
      clear r0 r1 r2 r3 r4 r5 r6 s0 s1 s2 s3 s4 s5 s6 hx1 hx2 hx3 hx4 hy1 hy2 hy3 hy4
      go_wp2_with fail
      refine wp_region_quiet_below (by kernel_rfl) (by kernel_rfl) ?_
      repeat (go_big_quiet_step (exact HSQ.out _ _))
      refine wpQuiet_nil ?_
      intro _ hw'
      obtain ⟨⟨dq, osq⟩, hw''⟩ := hw'
      subst hw''
      have HB2 := Lib.hid (HB.out.trans ((below_regrown wr dq osq).mono HB.out.size))
      go_wp2_with fail
      go_roundw
      case rel => exact ⟨k + 1, by omega, by go_num, HB2⟩
      case measure => simp [RowKit.intOf]; omega
    · have d8 : decide ((k : Int) < (n : Int)) = false := by rw [decide_eq_false_iff_not]; omega
      go_wp2_with fail
      go_ret
      exact ⟨rfl, HB.out⟩

theorem flatA_len : ∀ l : List Bat, (∀ b ∈ l, b.L.length ≤ 80) → (flatA l).length ≤ l.length * 80 := by
  intro l
  induction l with
  | nil => intro _; exact Nat.le_refl _
  | cons b l ih =>
    intro h
    show (flatC b ++ flatA l).length ≤ _
    have h1 := ih fun x hx => h x (by simp [hx])
    have h2 := h b (by simp)
    have h3 : (flatC b).length ≤ b.L.length := by
      unfold flatC
      split
      · exact Nat.zero_le _
      · rw [offsL_len]; exact Nat.le_refl _
    rw [List.length_append, List.length_cons]
    omega
theorem flatA_step (l : List Bat) (k : Nat) (h : k < l.length) : flatA (l.drop k) = flatC (l.getD k zB) ++ flatA (l.drop (k + 1)) := by
  rw [List.drop_eq_getElem_cons h, List.getD_eq_getElem?_getD, List.getElem?_eq_getElem h]
  rfl
set_option maxRecDepth 100000 in
set_option maxHeartbeats 8000000 in
theorem flat_all (M : List BA) (A : Option Addr) (n c : Nat) (w : World) (h : Bas w w.heap.size A n M) (hn : n ≤ 1000) (hb : ∀ k, k < n → 0 ≤ (M.getD k default).b.base ∧ (M.getD k default).b.base ≤ 2199023255552) :
    Calls Try.prog 13 #[.slice A n c] w fun e w' => ∃ v, e = .returned v ∧ w'.ownsRow w.heap.size 40 5 v (flatA (M.map BA.b)).length (ccells (flatA (M.map BA.b))) ∧ Below w.heap.size w w' := by
  obtain ⟨j0, qj0, qy0, qy1, qy2⟩ := info_parts zero_atQ
  have HL := Lib.hid h
  have HBS := Lib.hid hb
  have hlen := h.len
  have HFL : Hid ((flatA (M.map BA.b)).length ≤ 80000) := by
    show _ ≤ _
    have := flatA_len (M.map BA.b) fun b hb => by
      obtain ⟨x, hx, rfl⟩ := List.mem_map.1 hb
      obtain ⟨k, hk, rfl⟩ := List.getElem_of_mem hx
      have := (h.each k (by omega)).2.1
      rwa [List.getD_eq_getElem?_getD, List.getElem?_eq_getElem hk] at this
    rw [List.length_map] at this
    omega
  have HST : Hid (∀ k, k < n → flatA ((M.map BA.b).drop k) = flatC (M.getD k default).b ++ flatA ((M.map BA.b).drop (k + 1))) := fun k hk => by
    show _ = _; rw [flatA_step _ k (by rw [List.length_map]; omega), bat_get]
  have HEN : Hid (flatA ((M.map BA.b).drop n) = []) := by show _ = _; rw [List.drop_eq_nil_of_le (by rw [List.length_map]; omega)]; rfl
  have H0 : Hid (flatA ((M.map BA.b).drop 0) = flatA (M.map BA.b)) := rfl
  generalize flatA (M.map BA.b) = FL at *
  have HCR : Hid (∃ D : Nat → List AtC, ∀ k, D k = flatA ((M.map BA.b).drop k)) := ⟨_, fun _ => rfl⟩
  obtain ⟨D, hD⟩ := HCR.out
  simp only [← hD] at HST HEN H0
  clear hD HCR h hb hlen
  go_enter Try.func13, Try.ntmps13
  go_wp2_with fail
  go_loopw [3, 10] (fun v i wr => ∃ k : Nat, k ≤ n ∧ i = .int .i64 k ∧ ∃ C : List AtC, Hid (C ++ D k = FL) ∧ Hid (wr.ownsRow w.heap.size 40 5 v C.length (ccells C)) ∧ Hid (Below w.heap.size w wr)) (fun _ i _ => n - (RowKit.intOf i).toNat)
  case atStart => exact ⟨0, by omega, rfl, [], by show _ = _; rw [H0.out]; rfl, World.ownsRow_nil _ _ _ _, Below.refl _ _⟩
  case round =>
    obtain ⟨k, hk, rfl, C, HC, HO, HB⟩ := hrel
    by_cases hlt : k < n
    · obtain ⟨p, rfl, hp, r0, r1, r2, r3, r4, r5, r6⟩ := (HL.out.below HB.out).row hlt
      obtain ⟨hx1, hx2, hx3, hx4⟩ := HL.out.each k hlt
      have hbs := HBS.out k hlt
      have HS := Lib.hid (HST.out k hlt)
      generalize M.getD k default = x at *
      obtain ⟨b, bA, bc⟩ := x
      simp only at r0 r1 r2 r3 r4 r5 r6 hx1 hx2 hbs HS
      have HMK : Hid (∀ W, Calls Try.prog 28 #[.agg (b.cells bA bc)] W fun e w' => e = .returned (.bool (markB b)) ∧ Below W.heap.size W w') := fun W => marker_any b bA bc W
      have HFC : Hid (flatC b = if markB b = true then [] else offsL b.base b.L) := rfl
      generalize flatC b = FC at *
      generalize markB b = MK at *
      obtain ⟨base, pid, epoch, seq, kind, time, L⟩ := b
      simp only [Bat.cells] at HMK r0 r1 r2 r3 r4 r5 r6 hx1 hx2 hbs HFC
      have HX1 := Lib.hid hx1
      have HOS : Hid (∀ j, j < L.length → offsL (base + (j : Int)) (L.drop j) = atOf (base + (j : Int)) (L.getD j default) :: offsL (base + ((j + 1 : Nat) : Int)) (L.drop (j + 1))) := fun j hj => offsL_step base L j hj
      have HO0 : Hid (offsL (base + ((0 : Nat) : Int)) (L.drop 0) = offsL base L) := by show _ = _; simp
      have HON : Hid (offsL (base + (L.length : Int)) (L.drop L.length) = []) := by show _ = _; rw [List.drop_length]; rfl
      generalize offsL base L = OL at *
      have HCE : Hid (∃ E : Nat → List AtC, ∀ k, E k = offsL (base + (k : Int)) (L.drop k)) := ⟨_, fun _ => rfl⟩
      obtain ⟨E, hE⟩ := HCE.out
      simp only [← hE] at HOS HO0 HON
      clear hE HCE hx1
      have hkz : (k : Int) < (n : Int) := by omega
      have hzr := HB.out.size
      have hal := (Below.refl wr.heap.size wr).alloc (Nat.le_refl _) (.cells #[.int .i64 base, .int .i64 pid, .int .i64 epoch, .int .i64 seq, .int .i64 kind, .int .i64 time, .slice bA L.length bc] 24)
      have hN := heap_alloc_new wr (.cells #[.int .i64 base, .int .i64 pid, .int .i64 epoch, .int .i64 seq, .int .i64 kind, .int .i64 time, .slice bA L.length bc] 24)
      obtain ⟨w3, hw3⟩ : ∃ w3, wr.alloc (.cells #[.int .i64 base, .int .i64 pid, .int .i64 epoch, .int .i64 seq, .int .i64 kind, .int .i64 time, .slice bA L.length bc] 24) = w3 := ⟨_, rfl⟩
      rw [hw3] at hal hN
      have HW3 := Lib.hid hw3
      clear hw3
      go_upto_region 5 with fail
      rw [HW3.out]
      have x0 := cell_of_row _ _ 0 _ _ _ hN
      have x1 := cell_of_row _ _ 1 _ _ _ hN
      have x2 := cell_of_row _ _ 2 _ _ _ hN
      have x3 := cell_of_row _ _ 3 _ _ _ hN
      have x4 := cell_of_row _ _ 4 _ _ _ hN
      have x5 := cell_of_row _ _ 5 _ _ _ hN
      have x6 := cell_of_row _ _ 6 _ _ _ hN
      clear r0 r1 r2 r3 r4 r5 r6
      go_wp2_with fail
      refine (HMK.out _).mono ?_
      rintro e w4 ⟨rfl, hb4⟩
      have hgl : wr.heap.size < w3.heap.size := (Array.getElem?_eq_some_iff.1 hN).1
      have HNE : Hid (∀ q, u3.ownBlock = some q → q < wr.heap.size) := fun q hq => (World.ownsRow.lt HO.out q hq).2
      have HN4 := Lib.hid ((hb4.block wr.heap.size hgl).trans hN)
      have HO4 := Lib.hid (rowb5 HO.out (hal.trans (hb4.mono (Nat.le_of_lt hgl))))
      have HB4 := Lib.hid (HB.out.trans ((hal.trans (hb4.mono (Nat.le_of_lt hgl))).mono hzr))
      clear hb4 hal hN x0 x1 x2 x3 x4 x5 x6 HW3 HMK
      cases MK with
      | true =>
        go_wp2_with fail
        go_roundw
        case rel => exact ⟨k + 1, by omega, by go_num, C, by have e := HC.out; rw [HS.out, HFC.out] at e; exact e, HO4, HB4⟩
        case measure => simp [RowKit.intOf]; omega
      | false =>
        have x6 := cell_of_row _ _ 6 _ _ _ HN4.out
        go_wp2_with fail
        clear x6
        generalize wr.heap.size = gb at *
        have hgb : w.heap.size ≤ gb := hzr
        have HC0 : Hid (C ++ (E 0 ++ D (k + 1)) = FL) := by have e := HC.out; rw [HS.out, HFC.out] at e; rw [HO0.out]; exact e
        have HNB : Hid (u3.ownBlock ≠ some gb) := fun e => by have := HNE.out gb e; omega
        clear HNE HC HO hzr
        generalize wr = wq at *
        go_loopw [3, 19] (fun v i ws => ∃ j : Nat, j ≤ L.length ∧ i = .int .i64 j ∧ ∃ C : List AtC, Hid (C ++ (E j ++ D (k + 1)) = FL) ∧ Hid (ws.ownsRow w.heap.size 40 5 v C.length (ccells C)) ∧ Hid (v.ownBlock ≠ some gb) ∧ Hid (ws.heap[gb]? = some (.cells #[.int .i64 base, .int .i64 pid, .int .i64 epoch, .int .i64 seq, .int .i64 kind, .int .i64 time, .slice bA L.length bc] 24 (0, 0))) ∧ Hid (Below w.heap.size w ws)) (fun _ i _ => L.length - (RowKit.intOf i).toNat)
        case atStart => exact ⟨0, by omega, rfl, C, HC0, HO4, HNB, HN4, HB4⟩
        case round =>
          obtain ⟨j, hj, rfl, C, HC, HO, HNB, HNJ, HBJ⟩ := hrel
          have hgl := (Array.getElem?_eq_some_iff.1 HNJ.out).1
          by_cases hjt : j < L.length
          · obtain ⟨p, rfl, hp, r0, r1, r2, r3⟩ := (HX1.out.below HBJ.out).row hjt
            have hkz : (j : Int) < (L.length : Int) := by omega
            have HSJ := Lib.hid (HOS.out j hjt)
            have hCL : C.length ≤ 80000 := by have e := congrArg List.length HC.out; have := HFL.out; rw [List.length_append] at e; omega
            generalize L.getD j default = re at *
            obtain ⟨key, value, gone, rt⟩ := re
            simp only at r0 r1 r2 r3 HSJ
            have hzj := HBJ.out.size
            have hal5 := (Below.refl wr.heap.size wr).alloc (Nat.le_refl _) (.cells #[.string key, .string value, .bool gone, .int .i64 rt] 38)
            have hN5 := heap_alloc_new wr (.cells #[.string key, .string value, .bool gone, .int .i64 rt] 38)
            have hM5 := (hal5.block gb hgl).trans HNJ.out
            have HO5 := Lib.hid (HO.out.alloc (.cells #[.string key, .string value, .bool gone, .int .i64 rt] 38))
            have HB5 := Lib.hid (HBJ.out.trans (hal5.mono hzj))
            have hz5 : wr.heap.size < (wr.alloc (.cells #[.string key, .string value, .bool gone, .int .i64 rt] 38)).heap.size := by simp
            obtain ⟨w5, hw5⟩ : ∃ w5, wr.alloc (.cells #[.string key, .string value, .bool gone, .int .i64 rt] 38) = w5 := ⟨_, rfl⟩
            rw [hw5] at hN5 hM5 HO5 HB5 hz5
            have HW5 := Lib.hid hw5
            have HM5 := Lib.hid hM5
            have HZ5 : Hid (gb < w5.heap.size) := Nat.lt_trans hgl hz5
            clear hw5 hal5 hz5
            go_upto_region 9 with fail
            rw [HW5.out]
            have n0 := cell_of_row _ _ 0 _ _ _ hN5
            have n1 := cell_of_row _ _ 1 _ _ _ hN5
            have n2 := cell_of_row _ _ 2 _ _ _ hN5
            have n3 := cell_of_row _ _ 3 _ _ _ hN5
            have b0 := cell_of_row _ _ 0 _ _ _ hM5
            clear r0 r1 r2 r3 hM5 hN5
            have hl80 : L.length ≤ 80 := hx2
            have hown8 := HO5.out.alloc (.cells #[.int .i64 (base + (j : Int)), .string key, .string value, .bool gone, .int .i64 rt] 40)
            go_wp2_with (at_builtin; go_loud (refine wpList_append_own_at _ rfl (.tmp 24) (.tmp 31) 34 rfl w.heap.size 40 j0 _ 5 56 Try.underlying34 qj0 qy0 qy1 qy2 rfl (by decide) _ C.length (ccells C) rfl hown8 ⟨w5.heap.size, 0, none⟩ 1 1 [.int .i64 (base + (j : Int)), .string key, .string value, .bool gone, .int .i64 rt] rfl rfl (new_cells5 w5 [.int .i64 (base + (j : Int)), .string key, .string value, .bool gone, .int .i64 rt] _) ?g1 ?g2 ?g3 ?g4 ?_))
            case g1 => first | exact ⟨rfl, rfl, rfl, rfl, rfl⟩ | (intro u hu; simp at hu; rcases hu with rfl | rfl | rfl | rfl | rfl <;> rfl)
            case g2 => unfold maxLen; omega
            case g3 => omega
            case g4 => have := HB5.out.size; simp; omega
            intro va w7 hown7 hg7 _ hat7
            have HO7 : Hid (w7.ownsRow w.heap.size 40 5 va (C ++ [atOf (base + (j : Int)) ⟨key, value, gone, rt⟩]).length (ccells (C ++ [atOf (base + (j : Int)) ⟨key, value, gone, rt⟩]))) := by show World.ownsRow _ _ _ _ _ _ _; rw [ccells_append, List.length_append]; simpa [ccells, AtC.cells, atOf] using hown7
            have HB7 := Lib.hid ((HB5.out.alloc HB5.out.size _).trans ((Below.refl _ _).grown hg7 (by have := HB5.out.size; simp; omega) (fun q hq => (World.ownsRow.lt hown8 q hq).1)))
            have HN7 := Lib.hid ((hg7.block gb (by have := HZ5.out; simp; omega) (fun e => HNB.out e.symm)).trans ((heap_alloc_old w5 _ HZ5.out).trans HM5.out))
            have HNV : Hid (va.ownBlock ≠ some gb) := by
              rcases hat7 with e | e
              · show _ ≠ _; rw [e]; exact HNB.out
              · show _ ≠ _; rw [e]; intro e2; injection e2 with e2; have := HZ5.out; have e3 : (w5.alloc (.cells #[.int .i64 (base + (j : Int)), .string key, .string value, .bool gone, .int .i64 rt] 40)).heap.size = w5.heap.size + 1 := (by simp); omega
            clear hown8 hown7 hg7 hat7 n0 n1 n2 n3 b0
            go_wp2_with fail
            go_roundw
            case rel => exact ⟨j + 1, by omega, by go_num, C ++ [atOf (base + (j : Int)) ⟨key, value, gone, rt⟩], by have e := HC.out; rw [HSJ.out] at e; show _ = _; rw [← e]; simp, HO7, HNV, HN7, HB7⟩
            case measure => simp [RowKit.intOf]; omega
          · have d8 : decide ((j : Int) < (L.length : Int)) = false := by rw [decide_eq_false_iff_not]; omega
            have d9 : decide (j < L.length) = false := by rw [decide_eq_false_iff_not]; omega
            obtain hkl : j = L.length := by omega
            have HX : Hid (C ++ D (k + 1) = FL) := by have e := HC.out; rw [hkl, HON.out] at e; exact e
            clear hjt hkl
            go_wp2_with fail
            go_roundw
            case rel => exact ⟨k + 1, by omega, by go_num, C, HX, HO, HBJ⟩
            case measure => simp [RowKit.intOf]; omega
    · have d8 : decide ((k : Int) < (n : Int)) = false := by rw [decide_eq_false_iff_not]; omega
      obtain rfl : k = n := by omega
      go_wp2_with fail
      go_ret
      have e := HC.out
      rw [HEN.out, List.append_nil] at e
      subst e
      exact ⟨_, rfl, HO.out, HB.out⟩
end Go.Proofs.Ytkdpfajoeajenaa
