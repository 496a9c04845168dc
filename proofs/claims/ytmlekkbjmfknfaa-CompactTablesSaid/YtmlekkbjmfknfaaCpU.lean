/-
  A table's All and Same; what Apply comes to, of any list; what stays of a list comes to the same table.
-/
import Derived.Test.YtmlekkbjmfknfaaCpS
namespace Go.Proofs.Ytmlekkbjmfknfaa
open Go.RowKit Go.Lib Go.Sort
set_option linter.unusedVariables false
set_option linter.unusedSimpArgs false

/-! ### the mathematics -/
def LastIn : List AtC → AtC → Prop
  | [], _ => False
  | a :: M, x => LastIn M x ∨ (x = a ∧ a.gone = false ∧ noKey a.key M = true)
theorem mem_app (M : List AtC) : ∀ (L : List AtC) (x : AtC), x ∈ appAll M L ↔ LastIn M x ∨ (x ∈ L ∧ noKey x.key M = true) := by
  induction M with
  | nil => intro L x; simp [appAll, LastIn, noKey]
  | cons a M ih =>
    intro L x
    show x ∈ appAll M (applyL a L) ↔ _
    rw [ih, mem_apply]
    have e : noKey x.key (a :: M) = true ↔ a.key ≠ x.key ∧ noKey x.key M = true := by simp [noKey]
    rw [e]
    show _ ↔ (LastIn M x ∨ (x = a ∧ a.gone = false ∧ noKey a.key M = true)) ∨ _
    constructor
    · rintro (h | ⟨⟨h1, h2⟩ | ⟨rfl, h2⟩, h3⟩)
      · exact .inl (.inl h)
      · exact .inr ⟨h1, fun q => h2 q.symm, h3⟩
      · exact .inl (.inr ⟨rfl, h2, h3⟩)
    · rintro ((h | ⟨rfl, h2, h3⟩) | ⟨h1, h2, h3⟩)
      · exact .inl h
      · exact .inr ⟨.inr ⟨rfl, h2⟩, h3⟩
      · exact .inr ⟨.inl ⟨h1, fun q => h2 q.symm⟩, h3⟩
theorem last_clean (h : Int) (M : List AtC) (x : AtC) : LastIn (cleanR h M) x ↔ LastIn M x := by
  induction M with
  | nil => exact Iff.rfl
  | cons a M ih =>
    have e : cleanR h (a :: M) = if (noKey a.key M && !oldB h a) = true then a :: cleanR h M else cleanR h M := rfl
    rw [e]
    by_cases hk : (noKey a.key M && !oldB h a) = true
    · rw [if_pos hk]
      rw [Bool.and_eq_true] at hk
      have : noKey a.key (cleanR h M) = true := noKey_iff.2 fun y hy => noKey_iff.1 hk.1 y (cleanR_sub h M y hy)
      show (LastIn (cleanR h M) x ∨ (x = a ∧ a.gone = false ∧ noKey a.key (cleanR h M) = true)) ↔ (LastIn M x ∨ (x = a ∧ a.gone = false ∧ noKey a.key M = true))
      rw [ih, hk.1, this]
    · rw [if_neg hk, ih]
      show _ ↔ LastIn M x ∨ _
      constructor
      · exact .inl
      · rintro (q | ⟨rfl, hg, hn⟩)
        · exact q
        · exfalso
          apply hk
          rw [Bool.and_eq_true]
          exact ⟨hn, by unfold oldB; rw [hg]; rfl⟩
theorem app_srt (M : List AtC) : ∀ L, Srt L → Srt (appAll M L) := by
  induction M with
  | nil => intro L h; exact h
  | cons a M ih => intro L h; exact ih _ (apply_srt h)
theorem srt_ext : ∀ (L1 L2 : List AtC), Srt L1 → Srt L2 → (∀ x, x ∈ L1 ↔ x ∈ L2) → L1 = L2
  | [], [], _, _, _ => rfl
  | [], b :: _, _, _, h => by have := (h b).2 (by simp); cases this
  | a :: _, [], _, _, h => by have := (h a).1 (by simp); cases this
  | a :: l1, b :: l2, h1, h2, h => by
    obtain ⟨p1, q1⟩ := List.pairwise_cons.1 h1
    obtain ⟨p2, q2⟩ := List.pairwise_cons.1 h2
    have hab : a = b := by
      rcases List.mem_cons.1 ((h a).1 (by simp)) with e | e
      · exact e
      · rcases List.mem_cons.1 ((h b).2 (by simp)) with e' | e'
        · exact e'.symm
        · have := lessB_trans (p1 b e') (p2 a e)
          rw [lessB_irr] at this; cases this
    subst hab
    rw [srt_ext l1 l2 q1 q2 fun x => ?_]
    constructor
    · intro hx
      rcases List.mem_cons.1 ((h x).1 (List.mem_cons_of_mem _ hx)) with rfl | e
      · have := p1 x hx; rw [lessB_irr] at this; cases this
      · exact e
    · intro hx
      rcases List.mem_cons.1 ((h x).2 (List.mem_cons_of_mem _ hx)) with rfl | e
      · have := p2 x hx; rw [lessB_irr] at this; cases this
      · exact e
theorem app_clean (h : Int) (M : List AtC) : appAll (cleanR h M) [] = appAll M [] :=
  srt_ext _ _ (app_srt _ _ List.Pairwise.nil) (app_srt _ _ List.Pairwise.nil) fun x => by rw [mem_app, mem_app, last_clean]; simp
theorem inc_pair : ∀ M : List AtC, incB M = true ↔ M.Pairwise fun a b => a.off < b.off
  | [] => by simp [incB]
  | [a] => by simp [incB]
  | a :: b :: l => by
    have ih := inc_pair (b :: l)
    have e : incB (a :: b :: l) = (decide (a.off < b.off) && incB (b :: l)) := rfl
    rw [e, Bool.and_eq_true, decide_eq_true_iff, ih]
    constructor
    · rintro ⟨h1, h2⟩
      refine List.pairwise_cons.2 ⟨fun x hx => ?_, h2⟩
      rcases List.mem_cons.1 hx with rfl | hx
      · exact h1
      · have := (List.pairwise_cons.1 h2).1 x hx; omega
    · intro h
      obtain ⟨h1, h2⟩ := List.pairwise_cons.1 h
      exact ⟨h1 b (by simp), h2⟩
theorem clean_sublist (h : Int) (M : List AtC) : List.Sublist (cleanR h M) M := by
  induction M with
  | nil => exact List.Sublist.refl _
  | cons a M ih =>
    unfold cleanR
    split
    · exact ih.cons_cons a
    · exact ih.cons a
/-- which lists Apply takes, said of all records -/
theorem okM_iff (next : Int) (M : List AtC) (hM : M ≠ []) : okM next M = true ↔ (M.Pairwise fun a b => a.off < b.off) ∧ ∀ x ∈ M, next ≤ x.off ∧ x.off ≤ 1099511627776 := by
  unfold okM
  rw [Bool.and_eq_true, Bool.and_eq_true, decide_eq_true_iff, decide_eq_true_iff, inc_pair]
  have hl : 0 < M.length := List.length_pos_iff.2 hM
  have g : ∀ i, i < M.length → M.getD i default ∈ M := fun i hi => by rw [List.getD_eq_getElem?_getD, List.getElem?_eq_getElem hi]; exact List.getElem_mem _
  have mono : (M.Pairwise fun a b => a.off < b.off) → ∀ i j, i ≤ j → j < M.length → (M.getD i default).off ≤ (M.getD j default).off := fun hp i j hij hj => by
    rcases Nat.lt_or_ge i j with h | h
    · rw [List.getD_eq_getElem?_getD, List.getD_eq_getElem?_getD, List.getElem?_eq_getElem hj, List.getElem?_eq_getElem (by omega)]
      exact Int.le_of_lt (List.pairwise_iff_getElem.1 hp i j (by omega) hj h)
    · rw [show i = j by omega]; exact Int.le_refl _
  constructor
  · rintro ⟨hp, h1, h2⟩
    refine ⟨hp, fun x hx => ?_⟩
    obtain ⟨i, hi, rfl⟩ := getD_mem hx
    have := mono hp 0 i (by omega) hi
    have := mono hp i (M.length - 1) (by omega) (by omega)
    omega
  · rintro ⟨hp, h1⟩
    exact ⟨hp, (h1 _ (g 0 hl)).1, (h1 _ (g (M.length - 1) (by omega))).2⟩
theorem okM_sub {next : Int} {M N : List AtC} (h : okM next M = true) (hM : M ≠ []) (hN : N ≠ []) (hs : List.Sublist N M) : okM next N = true := by
  rw [okM_iff _ _ hM] at h
  rw [okM_iff _ _ hN]
  exact ⟨h.1.sublist hs, fun x hx => h.2 x (hs.subset hx)⟩

/-! ### All -/
set_option maxRecDepth 100000 in
set_option maxHeartbeats 2000000 in
theorem copied_any (A : Option Addr) (n c : Nat) (L : List AtC) (w : World) (h : Acs w w.heap.size A n L) (hn : n ≤ 100000) (hA : A = none → n = 0) :
    Calls Try.prog 43 #[.slice A n c] w fun e w' => ∃ v, e = .returned v ∧ w'.ownsRow w.heap.size 81 5 v L.length (ccells L) ∧ Below w.heap.size w w' := by
  obtain ⟨j0, qj0, qy0, qy1, qy2⟩ := info_parts zero_at
  have hlen := h.len
  obtain ⟨w1, hmk, hro, hg1⟩ := run_makeSlice_full (P := Try.prog) w w.heap.size 68 81 j0 _ 5 Try.underlying68 qj0 qy0 qy1 .i64 .i64 n (by omega) (by rw [qy2]; omega) (by unfold maxLen; omega) (Nat.le_refl _)
  have hb1 : Below w.heap.size w w1 := (Below.refl _ _).grown hg1 (Nat.le_refl _) (fun k hk => by cases hk)
  rcases hro.2 with ⟨hz, _⟩ | ⟨g, cap, cur, hv, hbg, hh, hnc, hm, hsz, _⟩
  · cases hz
  injection hv with e1 _ e2
  injection e1 with e1
  injection e1 with e1
  subst e1 e2
  obtain ⟨W2, hcp, hown, hb2⟩ : ∃ W2, (∀ ty, (Builtin.copy_ #[68, 68] ty #[.slice (some ⟨w.heap.size, 0, none⟩) n n, .slice A n c]).run Try.prog w1 = .ok (.int .i64 n) W2) ∧ W2.ownsRow w.heap.size 81 5 (.slice (some ⟨w.heap.size, 0, none⟩) n n) L.length (ccells L) ∧ Below w.heap.size w W2 := by
    cases A with
    | none =>
      obtain rfl := hA rfl
      have : L = [] := List.length_eq_zero_iff.1 hlen
      subst this
      refine ⟨w1, fun ty => ?_, ⟨rfl, .inr ⟨w.heap.size, 0, cur, rfl, Nat.le_refl _, hh, Nat.le_refl _, Nat.zero_le _, hsz, by simp [ccells]⟩⟩, hb1⟩
      simp [Builtin.copy_, run_underlying Try.underlying68, Builtin.lenOf, Builtin.firstCells, sizeOf, typeInfo, qj0, storeCells, goInt]
    | some p =>
      have hl5 : (ccells L).length = n * 5 := by rw [ccells_length, hlen]
      refine ⟨_, fun ty => run_copy_row (P := Try.prog) w1 68 68 ty 81 j0 5 w.heap.size 0 n n cur p n c n (ccells L) Try.underlying68 qj0 qy1 (Nat.min_self n) hl5 (fun j u hj => by
        obtain ⟨q, e, hq, hc⟩ := h.lies.get j u hj
        injection e with e
        subst e
        exact (hb1.cell (p := p.add j) (by rw [add_block]; exact hq)).trans hc) hh (by rw [hl5, hsz]; omega) (ccells_one L), ⟨by rw [ccells_length], .inr ⟨w.heap.size, n, _, by rw [hlen], Nat.le_refl _, setRow_heap w1 w.heap.size cur _ _ _ hh, by omega, hm, by simp [hl5, hsz], ?_⟩⟩, ?_⟩
      · rw [hlen, ← hl5]
        simp
      · have := grown_setRow (w := w) (w1 := w1) (g := w.heap.size) ⟨hg1.1, hg1.2, hg1.3, hg1.size, fun k hk _ => hg1.block k hk (by simp)⟩ (cur.toList.take 0 ++ ccells L ++ cur.toList.drop (0 + (ccells L).length)).toArray
        exact (Below.refl _ _).grown this (Nat.le_refl _) (fun k hk => by injection hk with hk; omega)
  have HO := Lib.hid hown
  have HB := Lib.hid hb2
  clear hown hb2 hh hsz hro hg1 hb1 h hlen
  go_enter Try.func43, Try.ntmps43
  go_wp2_with fail
  go_ret
  exact ⟨_, rfl, HO.out, HB.out⟩
set_option maxRecDepth 100000 in
set_option maxHeartbeats 2000000 in
theorem all9_any (base g : Nat) (next : Int) (v : Value) (L : List AtC) (w : World) (hT : Tbl w base g next v L) (hL : L.length ≤ 100000) :
    Calls Try.prog 41 #[.pointer (some ⟨g, 0, none⟩)] w fun e w' => ∃ v, e = .returned v ∧ w'.ownsRow w.heap.size 81 5 v L.length (ccells L) ∧ Below w.heap.size w w' := by
  obtain ⟨A, c, rfl, _, _, hA⟩ := hT.acs
  have HC := Lib.hid (copied_any A L.length c L w hA hL (fun e => (row_none hT.row e).1))
  have c1 := hT.c1
  clear hT hA
  go_enter Try.func41, Try.ntmps41
  go_wp2_with (go_at_call 43; (with_reducible refine HC.out.mono ?_); rintro e w1 ⟨v1, rfl, h1, h2⟩)
  go_ret
  exact ⟨v1, rfl, h1, h2⟩

/-! ### Same -/
set_option maxRecDepth 100000 in
set_option maxHeartbeats 2000000 in
theorem same1_yes (a : AtC) (w : World) : Calls Try.prog 45 #[.agg #[.int .i64 a.off, .string a.key, .string a.value, .bool a.gone, .int .i64 a.time], .agg #[.int .i64 a.off, .string a.key, .string a.value, .bool a.gone, .int .i64 a.time]] w fun e w' => e = .returned (.bool true) ∧ Below w.heap.size w w' := by
  have hbb : Below w.heap.size w ((w.alloc (.cells #[.int .i64 a.off, .string a.key, .string a.value, .bool a.gone, .int .i64 a.time] 81)).alloc (.cells #[.int .i64 a.off, .string a.key, .string a.value, .bool a.gone, .int .i64 a.time] 81)) := ((Below.refl _ _).alloc (Nat.le_refl _) _).alloc (by simp) _
  have HB := Lib.hid hbb
  clear hbb
  go_enter Try.func45, Try.ntmps45
  go_wp2
  go_ret
  exact ⟨rfl, HB.out⟩
set_option maxRecDepth 100000 in
set_option maxHeartbeats 4000000 in
theorem equalf_yes (A A' : Option Addr) (n c c' : Nat) (L : List AtC) (w : World) (h : Acs w w.heap.size A n L) (h' : Acs w w.heap.size A' n L) (hn : n ≤ 100000) :
    Calls Try.prog 44 #[.slice A n c, .slice A' n c', .func (.func 45) #[] #[]] w fun e w' => e = .returned (.bool true) ∧ Below w.heap.size w w' := by
  have HL := Lib.hid h
  have HL' := Lib.hid h'
  have HS : Hid (∀ (a : AtC) W, Calls Try.prog 45 #[.agg #[.int .i64 a.off, .string a.key, .string a.value, .bool a.gone, .int .i64 a.time], .agg #[.int .i64 a.off, .string a.key, .string a.value, .bool a.gone, .int .i64 a.time]] W fun e w' => e = .returned (.bool true) ∧ Below W.heap.size W w') := same1_yes
  have ec : ∀ args w, (callFunc 45 args).run Try.prog w = .ok (.enter 45 args) w := enters_of Try.func45 (by kernel_rfl) rfl
  clear h h'
  go_enter Try.func44, Try.ntmps44
  go_wp2_with fail
  go_loopw [17] (fun i wr => ∃ k : Nat, k ≤ n ∧ i = .int .i64 k ∧ Hid (Below w.heap.size w wr)) (fun i _ => n - (RowKit.intOf i).toNat)
  case atStart => exact ⟨0, by omega, rfl, Below.refl _ _⟩
  case round =>
    obtain ⟨k, hk, rfl, HB⟩ := hrel
    have hzr := HB.out.size
    by_cases hlt : k < n
    · obtain ⟨p, rfl, hp, r0, r1, r2, r3, r4⟩ := (HL.out.below HB.out).row hlt
      obtain ⟨p', rfl, hp', s0, s1, s2, s3, s4⟩ := (HL'.out.below HB.out).row hlt
      generalize L.getD k default = re at *
      have hkz : (k : Int) < (n : Int) := by omega
      have hal := (Below.refl wr.heap.size wr).alloc (Nat.le_refl _) (.cells #[.int .i64 re.off, .string re.key, .string re.value, .bool re.gone, .int .i64 re.time] 81)
      have hN := heap_alloc_new wr (.cells #[.int .i64 re.off, .string re.key, .string re.value, .bool re.gone, .int .i64 re.time] 81)
      obtain ⟨w4, hw4⟩ : ∃ w4, wr.alloc (.cells #[.int .i64 re.off, .string re.key, .string re.value, .bool re.gone, .int .i64 re.time] 81) = w4 := ⟨_, rfl⟩
      rw [hw4] at hal hN
      have hal2 := (Below.refl w4.heap.size w4).alloc (Nat.le_refl _) (.cells #[.int .i64 re.off, .string re.key, .string re.value, .bool re.gone, .int .i64 re.time] 81)
      have hN2 := heap_alloc_new w4 (.cells #[.int .i64 re.off, .string re.key, .string re.value, .bool re.gone, .int .i64 re.time] 81)
      obtain ⟨w5, hw5⟩ : ∃ w5, w4.alloc (.cells #[.int .i64 re.off, .string re.key, .string re.value, .bool re.gone, .int .i64 re.time] 81) = w5 := ⟨_, rfl⟩
      rw [hw5] at hal2 hN2
      have HB5 : Hid (Below w.heap.size w w5) := (HB.out.trans (hal.mono hzr)).trans (hal2.mono (Nat.le_trans hzr hal.size))
      have HW4 := Lib.hid hw4
      have HW5 := Lib.hid hw5
      have hlt4 : wr.heap.size < w4.heap.size := (Array.getElem?_eq_some_iff.1 hN).1
      have hpw : p'.block < wr.heap.size := by omega
      have q0 := (hal.cell (p := p'.add (k * 5)) (by rw [add_block]; exact hpw)).trans s0
      have q1 := (hal.cell (p := ⟨(p'.add (k * 5)).block, (p'.add (k * 5)).off + 1, none⟩) (by show (p'.add (k * 5)).block < _; rw [add_block]; exact hpw)).trans s1
      have q2 := (hal.cell (p := ⟨(p'.add (k * 5)).block, (p'.add (k * 5)).off + 2, none⟩) (by show (p'.add (k * 5)).block < _; rw [add_block]; exact hpw)).trans s2
      have q3 := (hal.cell (p := ⟨(p'.add (k * 5)).block, (p'.add (k * 5)).off + 3, none⟩) (by show (p'.add (k * 5)).block < _; rw [add_block]; exact hpw)).trans s3
      have q4 := (hal.cell (p := ⟨(p'.add (k * 5)).block, (p'.add (k * 5)).off + 4, none⟩) (by show (p'.add (k * 5)).block < _; rw [add_block]; exact hpw)).trans s4
      have HN1 := Lib.hid ((hal2.block _ hlt4).trans hN)
      have HN2 := Lib.hid hN2
      clear hw4 hw5 s0 s1 s2 s3 s4 hN hN2 hal hal2
      go_upto_region 6 with fail
      rw [HW4.out]
      clear r0 r1 r2 r3 r4
      go_upto_region 7 with fail
      rw [HW5.out]
      have a0 := cell_of_row _ _ 0 _ _ _ HN1.out
      have a1 := cell_of_row _ _ 1 _ _ _ HN1.out
      have a2 := cell_of_row _ _ 2 _ _ _ HN1.out
      have a3 := cell_of_row _ _ 3 _ _ _ HN1.out
      have a4 := cell_of_row _ _ 4 _ _ _ HN1.out
      have b0 := cell_of_row _ _ 0 _ _ _ HN2.out
      have b1 := cell_of_row _ _ 1 _ _ _ HN2.out
      have b2 := cell_of_row _ _ 2 _ _ _ HN2.out
      have b3 := cell_of_row _ _ 3 _ _ _ HN2.out
      have b4 := cell_of_row _ _ 4 _ _ _ HN2.out
      clear q0 q1 q2 q3 q4
      go_wp2_with (go_at_fn 45; refine (HS.out re _).mono ?_; rintro e w6 ⟨rfl, hb6⟩)
      have HB6 := Lib.hid (HB5.out.trans (hb6.mono HB5.out.size))
      clear hb6 a0 a1 a2 a3 a4 b0 b1 b2 b3 b4
      go_roundw
      case rel => exact ⟨k + 1, by omega, by go_num, HB6⟩
      case measure => simp [RowKit.intOf]; omega
    · have d8 : decide ((k : Int) < (n : Int)) = false := by rw [decide_eq_false_iff_not]; omega
      go_wp2_with fail
      go_ret
      exact ⟨rfl, HB.out⟩
set_option maxRecDepth 100000 in
set_option maxHeartbeats 2000000 in
theorem same9_yes (base base' g g' : Nat) (next next' : Int) (v v' : Value) (L : List AtC) (w : World) (hT : Tbl w base g next v L) (hT' : Tbl w base' g' next' v' L) (hL : L.length ≤ 100000) :
    Calls Try.prog 12 #[.pointer (some ⟨g, 0, none⟩), .pointer (some ⟨g', 0, none⟩)] w fun e w' => e = .returned (.bool true) ∧ Below w.heap.size w w' := by
  obtain ⟨A, c, rfl, _, _, hA⟩ := hT.acs
  obtain ⟨A', c', rfl, _, _, hA'⟩ := hT'.acs
  have HC : Hid (∀ d os, Calls Try.prog 44 #[.slice A L.length c, .slice A' L.length c', .func (.func 45) #[] #[]] (grow (redrawn w d) os) fun r w' => r = .returned (.bool true) ∧ ∃ p : Regrown, w' = grow (redrawn w p.d) p.os) := fun d os => Calls.regrown_of (equalf_yes A A' L.length c c' L _ ((hA.below (below_regrown w d os)).wider (below_regrown w d os).size) ((hA'.below (below_regrown w d os)).wider (below_regrown w d os).size) hL)
  have g0 := cell_regrown hT.c1
  have g1 := cell_regrown hT'.c1
  clear hT hT' hA hA'
  go_enter Try.func12, Try.ntmps12
  go_wp2_with fail
  refine wp_region_quiet_below (by kernel_rfl) (by kernel_rfl) ?_
  repeat (go_big_quiet_step (exact HC.out _ _))
  refine wpQuiet_nil ?_
  intro _ hw'
  obtain ⟨⟨dq, osq⟩, hw''⟩ := hw'
  subst hw''
  go_wp2_with fail
  go_ret
  exact ⟨rfl, below_regrown w dq osq⟩
end Go.Proofs.Ytmlekkbjmfknfaa
