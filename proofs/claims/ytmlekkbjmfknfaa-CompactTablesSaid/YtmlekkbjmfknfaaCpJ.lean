/-
  What a table's Apply does.
-/
import Derived.Test.YtmlekkbjmfknfaaCpI
namespace Go.Proofs.Ytmlekkbjmfknfaa
open Go.RowKit Go.Lib Go.Sort
set_option linter.unusedVariables false
set_option linter.unusedSimpArgs false

def appAll (M L : List AtC) : List AtC := M.foldl (fun L a => applyL a L) L
theorem app_snoc (M L : List AtC) (k : Nat) (hk : k < M.length) : appAll (M.take (k + 1)) L = applyL (M.getD k default) (appAll (M.take k) L) := by
  unfold appAll
  rw [List.take_succ_eq_append_getElem hk, List.foldl_append, List.getD_eq_getElem?_getD, List.getElem?_eq_getElem hk]; rfl
theorem app_len (M : List AtC) : ∀ L : List AtC, (appAll M L).length ≤ L.length + M.length := by
  induction M with
  | nil => intro L; exact Nat.le_refl _
  | cons a M ih =>
    intro L
    have h1 := ih (applyL a L)
    have h2 := apply_len a L
    show (appAll M (applyL a L)).length ≤ _
    simp only [List.length_cons]; omega
def okM (next : Int) (M : List AtC) : Bool := incB M && (decide (next ≤ (M.getD 0 default).off) && decide ((M.getD (M.length - 1) default).off ≤ 1099511627776))
theorem Acs.tw {w w' : World} {base g n : Nat} {A : Option Addr} {L : List AtC} (h : Acs w base A n L) (ht : Tw base g w w') (hne : ∀ p, A = some p → p.block ≠ g) : Acs w' base A n L :=
  ⟨h.len, ⟨fun j u hj => by
    obtain ⟨p, e, hb, hc⟩ := h.lies.get j u hj
    exact ⟨p, e, hb, (World.cell?_of_block (a := p.add j) (by rw [add_block]; exact ht.block _ hb (hne p e))).trans hc⟩⟩, h.fit⟩
theorem add_zero5 (p : Addr) : p.add 0 = p := by simp [Addr.add]

set_option maxRecDepth 100000 in
set_option maxHeartbeats 2000000 in
theorem Apply_none (g c : Nat) (A : Option Addr) (w : World) :
    Calls Try.prog 47 #[.pointer (some ⟨g, 0, none⟩), .slice A 0 c] w fun e w' => e = .returned (.int .i64 0) ∧ w' = w := by
  go_enter Try.func47, Try.ntmps47
  go_wp2_with fail
  go_ret
  exact ⟨rfl, rfl⟩
set_option maxRecDepth 100000 in
set_option maxHeartbeats 2000000 in
theorem Apply_bad (base g m c : Nat) (next : Int) (v : Value) (L M : List AtC) (A : Option Addr) (w : World) (hT : Tbl w base g next v L) (hM : Acs w w.heap.size A (m + 1) M) (hm : m ≤ 100000) (hbad : okM next M = false) :
    Calls Try.prog 47 #[.pointer (some ⟨g, 0, none⟩), .slice A (m + 1) c] w fun e w' => e = .returned (.int .i64 8) ∧ Below w.heap.size w w' := by
  have HC : Hid (∀ d os, Calls Try.prog 78 #[.slice A (m + 1) c] (grow (redrawn w d) os) fun r w' => r = .returned (.bool (incB M)) ∧ ∃ p : Regrown, w' = grow (redrawn w p.d) p.os) := fun d os => Calls.regrown_of (increase_any A (m + 1) c M _ ((hM.below (below_regrown w d os)).wider (below_regrown w d os).size) (by omega))
  obtain ⟨p, rfl, hp, r0, _⟩ := hM.row (show 0 < m + 1 by omega)
  obtain ⟨p', hp', _, r1, _⟩ := hM.row (show m < m + 1 by omega)
  injection hp' with hp'
  subst hp'
  have hlen := hM.len
  rw [Nat.zero_mul, add_zero5] at r0
  have HB : Hid (okM next M = false) := hbad
  unfold okM at HB
  rw [hlen, Nat.add_sub_cancel] at HB
  have c0 := hT.c0
  generalize (M.getD 0 default).off = o0 at *
  generalize (M.getD m default).off = o1 at *
  generalize incB M = IB at *
  have g0 := cell_regrown r0
  have g1 := cell_regrown r1
  have g2 := cell_regrown c0
  have hmz : (0 : Int) < (m : Int) + 1 := by omega
  have hmn : ¬ ((m : Int) + 1 = 0) := by omega
  have hmd : decide ((m : Int) + 1 = 0) = false := by simp; omega
  have hmb : ((m : Int) + 1 == 0) = false := by simp; omega
  clear hT hM hlen r0 c0 hbad
  go_enter Try.func47, Try.ntmps47
  go_upto_region 6 with fail
  clear r1
  cases IB with
  | false =>
    refine wp_region_quiet_below (by kernel_rfl) (by kernel_rfl) ?_
    repeat (go_big_quiet_step (exact HC.out _ _))
    refine wpQuiet_nil ?_
    intro _ hw'
    obtain ⟨⟨dq, osq⟩, hw''⟩ := hw'
    subst hw''
    go_wp2_with fail
    go_ret
    exact ⟨rfl, below_regrown w dq osq⟩
  | true =>
    by_cases h1 : o0 < next
    · have h1d : decide (o0 < next) = true := by simp [h1]
      refine wp_region_quiet_below (by kernel_rfl) (by kernel_rfl) ?_
      repeat (go_big_quiet_step (exact HC.out _ _))
      refine wpQuiet_nil ?_
      intro _ hw'
      obtain ⟨⟨dq, osq⟩, hw''⟩ := hw'
      subst hw''
      go_wp2_with fail
      go_ret
      exact ⟨rfl, below_regrown w dq osq⟩
    · have h1d : decide (o0 < next) = false := by simp; omega
      have h2 : 1099511627776 < o1 := by
        have e := HB.out
        rw [Bool.true_and, decide_eq_true (show next ≤ o0 by omega), Bool.true_and, decide_eq_false_iff_not] at e
        omega
      have h2d : decide (1099511627776 < o1) = true := by simp [h2]
      refine wp_region_quiet_below (by kernel_rfl) (by kernel_rfl) ?_
      repeat (go_big_quiet_step (exact HC.out _ _))
      refine wpQuiet_nil ?_
      intro _ hw'
      obtain ⟨⟨dq, osq⟩, hw''⟩ := hw'
      subst hw''
      go_wp2_with fail
      go_ret
      exact ⟨rfl, below_regrown w dq osq⟩

def AppP (base g : Nat) (M L : List AtC) (w : World) (e : Ending) (w' : World) : Prop := ∃ v', e = .returned (.int .i64 0) ∧ Tbl w' base g ((M.getD (M.length - 1) default).off + 1) v' (appAll M L) ∧ Tw base g w w'
set_option maxRecDepth 100000 in
set_option maxHeartbeats 2000000 in
theorem Apply_ok (base g m c : Nat) (next : Int) (v : Value) (L M : List AtC) (A : Option Addr) (w : World) (hT : Tbl w base g next v L) (hb : base ≤ w.heap.size) (hM : Acs w base A (m + 1) M) (hne : ∀ p, A = some p → p.block ≠ g) (hm : m ≤ 1000) (hL : L.length ≤ 1000) (hok : okM next M = true) :
    Calls Try.prog 47 #[.pointer (some ⟨g, 0, none⟩), .slice A (m + 1) c] w fun e w' => AppP base g M L w e w' := by
  have HC : Hid (∀ d os, Calls Try.prog 78 #[.slice A (m + 1) c] (grow (redrawn w d) os) fun r w' => r = .returned (.bool (incB M)) ∧ ∃ p : Regrown, w' = grow (redrawn w p.d) p.os) := fun d os => Calls.regrown_of (increase_any A (m + 1) c M _ (((hM.wider hb).below (below_regrown w d os)).wider (below_regrown w d os).size) (by omega))
  have HT := Lib.hid hT
  have HM := Lib.hid hM
  have HNE := Lib.hid hne
  have hlen := hM.len
  obtain ⟨X, hX⟩ : ∃ X : Ending → World → Prop, (fun e w' => AppP base g M L w e w') = X := ⟨_, rfl⟩
  have HX : Hid (∀ v' w', Tbl w' base g ((M.getD m default).off + 1) v' (appAll M L) → Tw base g w w' → X (.returned (.int .i64 0)) w') := fun v' w' h1 h2 => by
    rw [← hX]; exact ⟨v', rfl, by rw [hlen, Nat.add_sub_cancel]; exact h1, h2⟩
  rw [hX]
  clear hX
  have HAE : Hid (appAll (M.take (m + 1)) L = appAll M L) := by show _ = _; rw [List.take_of_length_le (by omega)]
  have HAS : Hid (∀ k, k < m + 1 → appAll (M.take (k + 1)) L = applyL (M.getD k default) (appAll (M.take k) L)) := fun k hk => app_snoc M L k (by omega)
  have HALN : Hid (∀ k, k ≤ m + 1 → (appAll (M.take k) L).length ≤ 10000) := fun k hk => by
    have h1 := app_len (M.take k) L
    have h2 : (M.take k).length ≤ k := by simp; omega
    show _ ≤ _
    omega
  have HA0 : Hid (appAll (M.take 0) L = L) := rfl
  have HAK : Hid (∀ k, k < m + 1 → (M.getD k default).ok) := fun k hk => hM.ok_at hk
  obtain ⟨p, hpA, hp, r0, _⟩ := (hM.wider hb).row (show 0 < m + 1 by omega)
  obtain ⟨p', hp', _, r1, _⟩ := (hM.wider hb).row (show m < m + 1 by omega)
  subst hpA
  injection hp' with hp'
  subst hp'
  rw [Nat.zero_mul, add_zero5] at r0
  obtain ⟨hok1, hok2⟩ : incB M = true ∧ (next ≤ (M.getD 0 default).off ∧ (M.getD m default).off ≤ 1099511627776) := by
    unfold okM at hok
    rw [hlen, Nat.add_sub_cancel] at hok
    simpa using hok
  obtain ⟨hok2, hok3⟩ := hok2
  have hlo := (HAK.out m (by omega)).1
  have c0 := hT.c0
  generalize (M.getD 0 default).off = o0 at *
  generalize (M.getD m default).off = o1 at *
  rw [hok1] at HC
  have g0 := cell_regrown r0
  have g1 := cell_regrown r1
  have g2 := cell_regrown c0
  have hmz : (0 : Int) < (m : Int) + 1 := by omega
  have hmn : ¬ ((m : Int) + 1 = 0) := by omega
  have hmd : decide ((m : Int) + 1 = 0) = false := by simp; omega
  have hmb : ((m : Int) + 1 == 0) = false := by simp; omega
  have h1d : decide (o0 < next) = false := by simp; omega
  have h2d : decide (1099511627776 < o1) = false := by simp; omega
  have hw1 : IntKind.i64.wrap (o1 + 1) = o1 + 1 := by rw [IntKind.wrap_i64]; omega
  clear hT hM r0 c0 hok hok1 hne hlen
  obtain ⟨TL, hTL⟩ : ∃ TL : Nat → List AtC, ∀ k, TL k = appAll (M.take k) L := ⟨_, fun _ => rfl⟩
  simp only [← hTL] at HAE HAS HALN HA0
  clear hTL
  go_enter Try.func47, Try.ntmps47
  go_upto_region 6 with fail
  clear r1
  refine wp_region_quiet_below (by kernel_rfl) (by kernel_rfl) ?_
  repeat (go_big_quiet_step (exact HC.out _ _))
  refine wpQuiet_nil ?_
  intro _ hw'
  obtain ⟨⟨dq, osq⟩, hw''⟩ := hw'
  have HB0 : Hid (Below w.heap.size w _) := below_regrown w dq osq
  rw [← hw''] at HB0
  clear hw'' g0 g1 g2 HC
  go_wp2_with fail
  rename_i wq
  go_loopw [42] (fun i wr => ∃ k : Nat, k ≤ m + 1 ∧ i = .int .i64 k ∧ ∃ v', Hid (Tbl wr base g next v' (TL k)) ∧ Hid (Tw base g w wr)) (fun i _ => m + 1 - (RowKit.intOf i).toNat)
  case atStart => exact ⟨0, by omega, rfl, v, by rw [HA0.out]; exact HT.out.below HB0.out, Tw.of_below HB0.out hb⟩
  case round =>
    obtain ⟨k, hk, rfl, v', HTK, HTW⟩ := hrel
    have hbr : base ≤ wr.heap.size := Nat.le_trans hb HTW.out.size
    by_cases hlt : k < m + 1
    · obtain ⟨p', hp', hpb, r0, r1, r2, r3, r4⟩ := (HM.out.tw HTW.out HNE.out).row hlt
      injection hp' with hp'
      subst hp'
      have HAK' := Lib.hid (HAK.out k hlt)
      have HS := Lib.hid (HAS.out k hlt)
      have hle := HALN.out k (by omega)
      generalize M.getD k default = re at *
      have hkz : (k : Int) < (m : Int) + 1 := by omega
      have HCE : Hid (re.cells.toArray = #[.int .i64 re.off, .string re.key, .string re.value, .bool re.gone, .int .i64 re.time]) := rfl
      have hal := (Below.refl wr.heap.size wr).alloc (Nat.le_refl _) (.cells re.cells.toArray 81)
      have hN := heap_alloc_new wr (.cells re.cells.toArray 81)
      obtain ⟨w5, hw5⟩ : ∃ w5, wr.alloc (.cells re.cells.toArray 81) = w5 := ⟨_, rfl⟩
      rw [hw5] at hal hN
      have HAP := Lib.hid (apply_any base g next v' (TL k) re w5 (HTK.out.below hal) (Nat.le_trans hbr hal.size) (by omega) HAK'.out)
      have HTW5 := Lib.hid (HTW.out.trans (Tw.of_below hal hbr))
      have HW5 := Lib.hid hw5
      rw [HCE.out] at HW5 hN HAP
      clear hw5 hal HCE hle
      go_upto_region 11 with fail
      rw [HW5.out]
      have n0 := cell_of_row _ _ 0 _ _ _ hN
      have n1 := cell_of_row _ _ 1 _ _ _ hN
      have n2 := cell_of_row _ _ 2 _ _ _ hN
      have n3 := cell_of_row _ _ 3 _ _ _ hN
      have n4 := cell_of_row _ _ 4 _ _ _ hN
      clear r0 r1 r2 r3 r4
      go_wp2_with (go_at_call 79; (with_reducible refine HAP.out.mono ?_); rintro e w6 ⟨v6, rfl, ht6, htw6⟩)
      have HT6 : Hid (Tbl w6 base g next v6 (TL (k + 1))) := by show Tbl _ _ _ _ _ _; rw [HS.out]; exact ht6
      have HTW6 := Lib.hid (HTW5.out.trans htw6)
      clear ht6 htw6 n0 n1 n2 n3 n4
      go_roundw
      case rel => exact ⟨k + 1, by omega, by go_num, v6, HT6, HTW6⟩
      case measure => simp [RowKit.intOf]; omega
    · have d8 : decide ((k : Int) < (m : Int) + 1) = false := by rw [decide_eq_false_iff_not]; omega
      obtain hkm : k = m + 1 := by omega
      have hTT : Tbl wr base g next v' (appAll M L) := by rw [← HAE.out, ← hkm]; exact HTK.out
      have c0 := hTT.c0
      have f0 := frozen_of_row _ g 0 _ _ hTT.box
      have HEN := Lib.hid (HX.out v' (wr.setCell ⟨g, 0, none⟩ (.int .i64 (o1 + 1))) ⟨set2a _ hTT.box, row_set5 hTT.row hTT.far, hTT.far, hTT.srt, hTT.ok⟩ (HTW.out.trans (Tw.set _ _ _)))
      clear hTT hkm
      go_wp2_with fail
      exact HEN.out
end Go.Proofs.Ytmlekkbjmfknfaa
