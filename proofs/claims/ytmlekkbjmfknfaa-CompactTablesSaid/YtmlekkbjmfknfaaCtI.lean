/-
  What a table's Same does, of any two tables.
-/
import Derived.Test.YtmlekkbjmfknfaaCtE
namespace Go.Proofs.Ytmlekkbjmfknfaa
open Go.RowKit Go.Lib Go.Sort
set_option linter.unusedVariables false
set_option linter.unusedSimpArgs false

/-- do two records say the same? -/
def sayB (a b : AtC) : Bool := a.key.toList == b.key.toList && a.value.toList == b.value.toList
def sayAll : List AtC → List AtC → Bool
  | a :: l, b :: m => sayB a b && sayAll l m
  | _, _ => true
/-- do two lists of records say the same? -/
def sayL (L M : List AtC) : Bool := decide (L.length = M.length) && sayAll L M
theorem say_step (L M : List AtC) (k : Nat) (h1 : k < L.length) (h2 : k < M.length) : sayAll (L.drop k) (M.drop k) = (sayB (L.getD k default) (M.getD k default) && sayAll (L.drop (k + 1)) (M.drop (k + 1))) := by
  rw [drop_eq L k h1, drop_eq M k h2]; rfl
theorem say_end (L M : List AtC) (k : Nat) (h1 : L.length ≤ k) : sayAll (L.drop k) (M.drop k) = true := by
  rw [List.drop_of_length_le h1]; rfl
theorem say_refl (L : List AtC) : sayL L L = true := by
  have : sayAll L L = true := by
    induction L with
    | nil => rfl
    | cons a l ih => show (sayB a a && sayAll l l) = true; rw [ih]; simp [sayB]
  simp [sayL, this]
set_option maxRecDepth 100000 in
set_option maxHeartbeats 2000000 in
theorem same1_any (a b : AtC) (w : World) : Calls Try.prog 45 #[.agg #[.int .i64 a.off, .string a.key, .string a.value, .bool a.gone, .int .i64 a.time], .agg #[.int .i64 b.off, .string b.key, .string b.value, .bool b.gone, .int .i64 b.time]] w fun e w' => e = .returned (.bool (sayB a b)) ∧ Below w.heap.size w w' := by
  have hbb : Below w.heap.size w ((w.alloc (.cells #[.int .i64 a.off, .string a.key, .string a.value, .bool a.gone, .int .i64 a.time] 81)).alloc (.cells #[.int .i64 b.off, .string b.key, .string b.value, .bool b.gone, .int .i64 b.time] 81)) := ((Below.refl _ _).alloc (Nat.le_refl _) _).alloc (by simp) _
  have HB := Lib.hid hbb
  have HE : Hid (sayB a b = (a.key.toList == b.key.toList && a.value.toList == b.value.toList)) := rfl
  generalize sayB a b = sb at *
  clear hbb
  rcases Bool.eq_false_or_eq_true (a.key.toList == b.key.toList) with e1 | e1 <;> rcases Bool.eq_false_or_eq_true (a.value.toList == b.value.toList) with e2 | e2 <;> rw [e1, e2] at HE <;> (obtain rfl : sb = _ := HE.out) <;> clear HE <;> (go_enter Try.func45, Try.ntmps45; go_wp2; go_ret; exact ⟨rfl, HB.out⟩)
set_option maxRecDepth 100000 in
set_option maxHeartbeats 4000000 in
theorem equalf_any (A A' : Option Addr) (n n' c c' : Nat) (L M : List AtC) (w : World) (h : Acs w w.heap.size A n L) (h' : Acs w w.heap.size A' n' M) (hn : n ≤ 100000) (hn' : n' ≤ 100000) :
    Calls Try.prog 44 #[.slice A n c, .slice A' n' c', .func (.func 45) #[] #[]] w fun e w' => e = .returned (.bool (sayL L M)) ∧ Below w.heap.size w w' := by
  have HL := Lib.hid h
  have HL' := Lib.hid h'
  have HS : Hid (∀ (a b : AtC) W, Calls Try.prog 45 #[.agg #[.int .i64 a.off, .string a.key, .string a.value, .bool a.gone, .int .i64 a.time], .agg #[.int .i64 b.off, .string b.key, .string b.value, .bool b.gone, .int .i64 b.time]] W fun e w' => e = .returned (.bool (sayB a b)) ∧ Below W.heap.size W w') := same1_any
  have ec : ∀ args w, (callFunc 45 args).run Try.prog w = .ok (.enter 45 args) w := enters_of Try.func45 (by kernel_rfl) rfl
  have hlen := h.len
  have hlen' := h'.len
  have HSL : Hid (sayL L M = (decide (n = n') && sayAll (L.drop 0) (M.drop 0))) := by show _ = _; rw [List.drop_zero, List.drop_zero, ← hlen, ← hlen']; rfl
  have HST : Hid (∀ k, k < n → k < n' → sayAll (L.drop k) (M.drop k) = (sayB (L.getD k default) (M.getD k default) && sayAll (L.drop (k + 1)) (M.drop (k + 1)))) := fun k h1 h2 => say_step L M k (by omega) (by omega)
  have HEN : Hid (∀ k, n ≤ k → sayAll (L.drop k) (M.drop k) = true) := fun k h1 => say_end L M k (by omega)
  generalize sayL L M = SB at *
  obtain ⟨D, hD⟩ : ∃ D : Nat → Bool, ∀ k, D k = sayAll (L.drop k) (M.drop k) := ⟨_, fun _ => rfl⟩
  simp only [← hD] at HSL HST HEN
  clear hD h h' hlen hlen'
  go_enter Try.func44, Try.ntmps44
  by_cases hnn : n = n'
  · subst hnn
    have HS0 : Hid (SB = D 0) := by show _ = _; rw [HSL.out]; simp
    clear HSL
    go_wp2_with fail
    go_loopw [17] (fun i wr => ∃ k : Nat, k ≤ n ∧ i = .int .i64 k ∧ Hid (SB = D k) ∧ Hid (Below w.heap.size w wr)) (fun i _ => n - (RowKit.intOf i).toNat)
    case atStart => exact ⟨0, by omega, rfl, HS0.out, Below.refl _ _⟩
    case round =>
      obtain ⟨k, hk, rfl, HSK, HB⟩ := hrel
      have hzr := HB.out.size
      by_cases hlt : k < n
      · obtain ⟨p, rfl, hp, r0, r1, r2, r3, r4⟩ := (HL.out.below HB.out).row hlt
        obtain ⟨p', rfl, hp', s0, s1, s2, s3, s4⟩ := (HL'.out.below HB.out).row hlt
        have HSD := Lib.hid (HST.out k hlt hlt)
        generalize L.getD k default = re at *
        generalize M.getD k default = rf at *
        have hkz : (k : Int) < (n : Int) := by omega
        have hal := (Below.refl wr.heap.size wr).alloc (Nat.le_refl _) (.cells #[.int .i64 re.off, .string re.key, .string re.value, .bool re.gone, .int .i64 re.time] 81)
        have hN := heap_alloc_new wr (.cells #[.int .i64 re.off, .string re.key, .string re.value, .bool re.gone, .int .i64 re.time] 81)
        obtain ⟨w4, hw4⟩ : ∃ w4, wr.alloc (.cells #[.int .i64 re.off, .string re.key, .string re.value, .bool re.gone, .int .i64 re.time] 81) = w4 := ⟨_, rfl⟩
        rw [hw4] at hal hN
        have hal2 := (Below.refl w4.heap.size w4).alloc (Nat.le_refl _) (.cells #[.int .i64 rf.off, .string rf.key, .string rf.value, .bool rf.gone, .int .i64 rf.time] 81)
        have hN2 := heap_alloc_new w4 (.cells #[.int .i64 rf.off, .string rf.key, .string rf.value, .bool rf.gone, .int .i64 rf.time] 81)
        obtain ⟨w5, hw5⟩ : ∃ w5, w4.alloc (.cells #[.int .i64 rf.off, .string rf.key, .string rf.value, .bool rf.gone, .int .i64 rf.time] 81) = w5 := ⟨_, rfl⟩
        rw [hw5] at hal2 hN2
        have HB5 : Hid (Below w.heap.size w w5) := (HB.out.trans (hal.mono hzr)).trans (hal2.mono (Nat.le_trans hzr hal.size))
        have HW4 := Lib.hid hw4
        have HW5 := Lib.hid hw5
        have hlt4 : wr.heap.size < w4.heap.size := (Array.getElem?_eq_some_iff.1 hN).1
        have hpw : p'.block < wr.heap.size := by omega
        have q0 := (hal.cell (p := p'.add (k * 5)) (by rw [add_block]; exact hpw)).trans s0
        have q1 := (hal.cell (p := ⟨(p'.add (k * 5)).block, (p'.add (k * 5)).off + 1, none⟩) (by show (p'.add (k * 5)).block < _; rw [add_block]; exact hpw)).trans s1
        have q2 := (hal.cell (p := ⟨(p'.add (k * 5)).block, (p'.add (k * 5)).off + 2, none⟩) (by show (p'.add (k * 5)).block < _; rw [add_block]; exact hpw)).trans s2
        have q3 := (hal.cell (p := ⟨(p'.add (k * 5)).block, (p'.add (k * 5)).off + 3, none⟩) (by show (p'.add (k * 5)).block < _; rw [add_block]; exact hpw)).trans s3
        have q4 := (hal.cell (p := ⟨(p'.add (k * 5)).block, (p'.add (k * 5)).off + 4, none⟩) (by show (p'.add (k * 5)).block < _; rw [add_block]; exact hpw)).trans s4
        have HN1 := Lib.hid ((hal2.block _ hlt4).trans hN)
        have HN2 := Lib.hid hN2
        clear hw4 hw5 s0 s1 s2 s3 s4 hN hN2 hal hal2
        go_upto_region 6 with fail
        rw [HW4.out]
        clear r0 r1 r2 r3 r4
        go_upto_region 7 with fail
        rw [HW5.out]
        have a0 := cell_of_row _ _ 0 _ _ _ HN1.out
        have a1 := cell_of_row _ _ 1 _ _ _ HN1.out
        have a2 := cell_of_row _ _ 2 _ _ _ HN1.out
        have a3 := cell_of_row _ _ 3 _ _ _ HN1.out
        have a4 := cell_of_row _ _ 4 _ _ _ HN1.out
        have b0 := cell_of_row _ _ 0 _ _ _ HN2.out
        have b1 := cell_of_row _ _ 1 _ _ _ HN2.out
        have b2 := cell_of_row _ _ 2 _ _ _ HN2.out
        have b3 := cell_of_row _ _ 3 _ _ _ HN2.out
        have b4 := cell_of_row _ _ 4 _ _ _ HN2.out
        clear q0 q1 q2 q3 q4
        generalize hsb : sayB re rf = sb at *
        have HSB := Lib.hid hsb
        clear hsb
        cases sb with
        | true =>
          have HSN : Hid (SB = D (k + 1)) := by show _ = _; rw [HSK.out, HSD.out]; rfl
          clear HSD HSK
          go_wp2_with (go_at_fn 45; refine (HS.out re rf _).mono ?_; rw [HSB.out]; rintro e w6 ⟨rfl, hb6⟩)
          have HB6 := Lib.hid (HB5.out.trans (hb6.mono HB5.out.size))
          clear hb6 a0 a1 a2 a3 a4 b0 b1 b2 b3 b4
          go_roundw
          case rel => exact ⟨k + 1, by omega, by go_num, HSN, HB6⟩
          case measure => simp [RowKit.intOf]; omega
        | false =>
          have HSN : Hid (SB = false) := by show _ = _; rw [HSK.out, HSD.out]; rfl
          clear HSD HSK
          go_wp2_with (go_at_fn 45; refine (HS.out re rf _).mono ?_; rw [HSB.out]; rintro e w6 ⟨rfl, hb6⟩)
          have HB6 := Lib.hid (HB5.out.trans (hb6.mono HB5.out.size))
          clear hb6 a0 a1 a2 a3 a4 b0 b1 b2 b3 b4
          go_ret
          exact ⟨by rw [HSN.out]; rfl, HB6.out⟩
      · have d8 : decide ((k : Int) < (n : Int)) = false := by rw [decide_eq_false_iff_not]; omega
        have HSN : Hid (SB = true) := by show _ = _; rw [HSK.out, HEN.out k (by omega)]
        go_wp2_with fail
        go_ret
        exact ⟨by rw [HSN.out]; rfl, HB.out⟩
  · have HSN : Hid (SB = false) := by show _ = _; rw [HSL.out]; simp [hnn]
    have d1 : ((n : Int) != (n' : Int)) = true := by simp; omega
    have d2 : (n != n') = true := by simp; omega
    have HBR : Hid (Below w.heap.size w w) := Below.refl _ _
    clear hnn
    go_wp2_with fail
    go_ret
    exact ⟨by rw [HSN.out]; rfl, HBR.out⟩
set_option maxRecDepth 100000 in
set_option maxHeartbeats 2000000 in
theorem same9_any (base base' g g' : Nat) (next next' : Int) (v v' : Value) (L M : List AtC) (w : World) (hT : Tbl w base g next v L) (hT' : Tbl w base' g' next' v' M) (hL : L.length ≤ 100000) (hM : M.length ≤ 100000) :
    Calls Try.prog 12 #[.pointer (some ⟨g, 0, none⟩), .pointer (some ⟨g', 0, none⟩)] w fun e w' => e = .returned (.bool (sayL L M)) ∧ Below w.heap.size w w' := by
  obtain ⟨A, c, rfl, _, _, hA⟩ := hT.acs
  obtain ⟨A', c', rfl, _, _, hA'⟩ := hT'.acs
  have HC : Hid (∀ d os, Calls Try.prog 44 #[.slice A L.length c, .slice A' M.length c', .func (.func 45) #[] #[]] (grow (redrawn w d) os) fun r w' => r = .returned (.bool (sayL L M)) ∧ ∃ p : Regrown, w' = grow (redrawn w p.d) p.os) := fun d os => Calls.regrown_of (equalf_any A A' L.length M.length c c' L M _ ((hA.below (below_regrown w d os)).wider (below_regrown w d os).size) ((hA'.below (below_regrown w d os)).wider (below_regrown w d os).size) hL hM)
  have g0 := cell_regrown hT.c1
  have g1 := cell_regrown hT'.c1
  generalize sayL L M = sb at *
  clear hT hT' hA hA'
  go_enter Try.func12, Try.ntmps12
  go_wp2_with fail
  refine wp_region_quiet_below (by kernel_rfl) (by kernel_rfl) ?_
  repeat (go_big_quiet_step (exact HC.out _ _))
  refine wpQuiet_nil ?_
  intro _ hw'
  obtain ⟨⟨dq, osq⟩, hw''⟩ := hw'
  subst hw''
  go_wp2_with fail
  go_ret
  exact ⟨rfl, below_regrown w dq osq⟩
end Go.Proofs.Ytmlekkbjmfknfaa
