/-
  The document's table, as data and in memory; what its Apply does.
-/
import Derived.Test.YtmlekkbjmfknfaaCtV
import Derived.Test.YtmlekkbjmfknfaaPkR
namespace Go.Proofs.Ytmlekkbjmfknfaa
open Go.RowKit Go.Lib Go.Sort
set_option linter.unusedVariables false
set_option linter.unusedSimpArgs false

def notKey (s : ByteArray) (l : List AtC) : List AtC := l.filter fun x => !decide (x.key = s)
def rput (a : AtC) (l : List AtC) : List AtC := notKey a.key l ++ (if a.gone = true then [] else [a])
def rAll (M l : List AtC) : List AtC := M.foldl (fun l a => rput a l) l
theorem notKey_step (s : ByteArray) (l : List AtC) (j : Nat) (hj : j < l.length) : notKey s (l.drop j) = (if (l.getD j default).key = s then [] else [l.getD j default]) ++ notKey s (l.drop (j + 1)) := by
  rw [drop_eq l j hj]
  generalize l.getD j default = x
  unfold notKey
  by_cases h : x.key = s <;> simp [h]
theorem rAll_snoc (M l : List AtC) (k : Nat) (hk : k < M.length) : rAll (M.take (k + 1)) l = rput (M.getD k default) (rAll (M.take k) l) := by
  unfold rAll
  rw [List.take_succ_eq_append_getElem hk, List.foldl_append, List.getD_eq_getElem?_getD, List.getElem?_eq_getElem hk]
  rfl
theorem notKey_len (s : ByteArray) (l : List AtC) : (notKey s l).length ≤ l.length := List.length_filter_le _ _
theorem rput_len (a : AtC) (l : List AtC) : (rput a l).length ≤ l.length + 1 := by
  unfold rput
  have := notKey_len a.key l
  split <;> simp <;> omega
theorem rAll_len (M : List AtC) : ∀ l : List AtC, (rAll M l).length ≤ l.length + M.length := by
  induction M with
  | nil => intro l; exact Nat.le_refl _
  | cons a M ih =>
    intro l
    have h1 := ih (rput a l)
    have h2 := rput_len a l
    show (rAll M (rput a l)).length ≤ _
    simp only [List.length_cons]
    omega
theorem rput_ok {a : AtC} {l : List AtC} (ha : a.ok) (h : ∀ r ∈ l, r.ok) : ∀ r ∈ rput a l, r.ok := fun r hr => by
  unfold rput at hr
  rcases List.mem_append.1 hr with hr | hr
  · exact h r (List.mem_filter.1 hr).1
  · split at hr
    · cases hr
    · simp at hr; subst hr; exact ha
theorem mem_rput {a x : AtC} {l : List AtC} : x ∈ rput a l ↔ (x ∈ l ∧ x.key ≠ a.key) ∨ (x = a ∧ a.gone = false) := by
  unfold rput notKey
  rw [List.mem_append, List.mem_filter]
  cases h : a.gone <;> simp [h]
/-- the same records, each key once -/
structure Alk (L R : List AtC) : Prop where
  mem : ∀ x, x ∈ L ↔ x ∈ R
  one : R.Pairwise fun a b => a.key ≠ b.key
theorem Alk.put {L R : List AtC} (h : Alk L R) (a : AtC) : Alk (applyL a L) (rput a R) := by
  refine ⟨fun x => by rw [mem_apply, mem_rput, h.mem x], ?_⟩
  unfold rput
  refine List.pairwise_append.2 ⟨h.one.sublist List.filter_sublist, ?_, ?_⟩
  · split
    · exact List.Pairwise.nil
    · exact List.pairwise_singleton _ _
  · intro x hx y hy
    split at hy
    · cases hy
    · simp at hy
      subst hy
      have := (List.mem_filter.1 hx).2
      simpa using this
theorem Alk.all {L R : List AtC} (h : Alk L R) (M : List AtC) : Alk (appAll M L) (rAll M R) := by
  induction M generalizing L R with
  | nil => exact h
  | cons a M ih => exact ih (h.put a)

/-! ### in memory -/
structure Rt (w : World) (base g : Nat) (next : Int) (v : Value) (R : List AtC) : Prop where
  box : w.heap[g]? = some (.cells #[.int .i64 next, v] 28 (0, 0))
  row : w.ownsRow base 90 5 v R.length (ccells R)
  far : v.ownBlock ≠ some g
  ok : ∀ r ∈ R, r.ok
/-- all blocks but g are as they were -/
structure Tr (g : Nat) (w w' : World) : Prop where
  os : w'.os = w.os
  tape : w'.tape = w.tape
  output : w'.output = w.output
  size : w.heap.size ≤ w'.heap.size
  block : ∀ k, k < w.heap.size → k ≠ g → w'.heap[k]? = w.heap[k]?
section
variable {base g : Nat} {w w' w'' : World} {next : Int} {v v' : Value} {R : List AtC}
theorem Tr.refl (g : Nat) (w : World) : Tr g w w := ⟨rfl, rfl, rfl, Nat.le_refl _, fun _ _ _ => rfl⟩
theorem Tr.trans (h : Tr g w w') (h' : Tr g w' w'') : Tr g w w'' :=
  ⟨h'.os.trans h.os, h'.tape.trans h.tape, h'.output.trans h.output, Nat.le_trans h.size h'.size, fun k hk hg => (h'.block k (Nat.lt_of_lt_of_le hk h.size) hg).trans (h.block k hk hg)⟩
theorem Tr.of_below (h : Below w.heap.size w w') : Tr g w w' := ⟨h.os, h.tape, h.output, h.size, fun k hk _ => h.block k hk⟩
theorem Tr.set (w : World) (i : Nat) (u : Value) : Tr g w (w.setCell ⟨g, i, none⟩ u) := ⟨rfl, rfl, rfl, by simp, fun k _ hn => Below.heap_setCell w ⟨g, i, none⟩ u k hn⟩
theorem Rt.below (h : Rt w base g next v R) (hb : Below w.heap.size w w') : Rt w' base g next v R :=
  ⟨(hb.block g (Array.getElem?_eq_some_iff.1 h.box).1).trans h.box, rowb5 h.row hb, h.far, h.ok⟩
theorem Acs.tr {n : Nat} {A : Option Addr} {L : List AtC} (h : Acs w w.heap.size A n L) (ht : Tr g w w') (hne : ∀ p, A = some p → p.block ≠ g) : Acs w' w'.heap.size A n L :=
  ⟨h.len, ⟨fun j u hj => by
    obtain ⟨p, e, hb, hc⟩ := h.lies.get j u hj
    exact ⟨p, e, Nat.lt_of_lt_of_le hb ht.size, (World.cell?_of_block (a := p.add j) (by rw [add_block]; exact ht.block p.block hb (hne p e))).trans hc⟩⟩, h.fit⟩
end
/-- and the rows lie in the memory where they lay, or in new memory -/
structure Trv (g : Nat) (w w' : World) (v v' : Value) : Prop where
  tr : Tr g w w'
  own : ∀ k, v'.ownBlock = some k → v.ownBlock = some k ∨ w.heap.size ≤ k
theorem Trv.of_below {g : Nat} {w w' : World} {v : Value} (h : Below w.heap.size w w') : Trv g w w' v v := ⟨Tr.of_below h, fun _ e => .inl e⟩
theorem Trv.trans {g : Nat} {w w' w'' : World} {v v' v'' : Value} (h : Trv g w w' v v') (h' : Trv g w' w'' v' v'') : Trv g w w'' v v'' :=
  ⟨h.tr.trans h'.tr, fun k e => by
    rcases h'.own k e with e | e
    · exact h.own k e
    · exact .inr (Nat.le_trans h.tr.size e)⟩
theorem setR1 {w : World} {g : Nat} {x0 x1 : Value} (y : Value) (h : w.heap[g]? = some (.cells #[x0, x1] 28 (0, 0))) : (w.setCell ⟨g, 1, none⟩ y).heap[g]? = some (.cells #[x0, y] 28 (0, 0)) := by rw [heap_setCell_same _ g 1 _ _ _ h]; rfl
theorem setR0 {w : World} {g : Nat} {x0 x1 : Value} (y : Value) (h : w.heap[g]? = some (.cells #[x0, x1] 28 (0, 0))) : (w.setCell ⟨g, 0, none⟩ y).heap[g]? = some (.cells #[y, x1] 28 (0, 0)) := by rw [heap_setCell_same _ g 0 _ _ _ h]; rfl
theorem Rt.fin {w5 wx : World} {base g : Nat} {nk : Int} {v o : Value} {Rk R2 : List AtC} (h : Rt w5 base g nk v Rk) (hb : Below w5.heap.size w5 wx) (ho : wx.ownsRow w5.heap.size 90 5 o R2.length (ccells R2)) (hk : ∀ r ∈ R2, r.ok) (hbase : base ≤ w5.heap.size) (n2 : Int) :
    Rt ((wx.setCell ⟨g, 1, none⟩ o).setCell ⟨g, 0, none⟩ (.int .i64 n2)) base g n2 o R2 ∧ Trv g w5 ((wx.setCell ⟨g, 1, none⟩ o).setCell ⟨g, 0, none⟩ (.int .i64 n2)) v o := by
  have hgl := (Array.getElem?_eq_some_iff.1 h.box).1
  have hbx := (hb.block g hgl).trans h.box
  have hf : o.ownBlock ≠ some g := fun e => by have := (World.ownsRow.lt ho _ e).1; omega
  exact ⟨⟨setR0 _ (setR1 _ hbx), row_set5 (row_set5 (row_base5 ho hbase) hf) hf, hf, hk⟩, ⟨((Tr.of_below hb).trans (Tr.set _ _ _)).trans (Tr.set _ _ _), fun k e => .inr (World.ownsRow.lt ho k e).1⟩⟩
set_option maxRecDepth 100000 in
set_option maxHeartbeats 4000000 in
theorem rapply_any (base g n c : Nat) (next : Int) (v : Value) (R M : List AtC) (A : Option Addr) (w : World) (hT : Rt w base g next v R) (hb : base ≤ w.heap.size) (hM : Acs w w.heap.size A n M) (hne : ∀ p, A = some p → p.block ≠ g) (hm : n ≤ 1000) (hR : R.length ≤ 1000) :
    Calls Try.prog 48 #[.pointer (some ⟨g, 0, none⟩), .slice A n c] w fun e w' => ∃ v', e = .returned (.int .i64 (appE next M)) ∧ Rt w' base g (appN next M) v' (if okA next M = true then rAll M R else R) ∧ Trv g w w' v v' := by
  obtain ⟨k0, qk0, qz0, qz1, qz2⟩ := info_parts zero_rat
  have hlen := hM.len
  have HC : Hid (∀ d os, Calls Try.prog 80 #[.slice A n c] (grow (redrawn w d) os) fun r w' => r = .returned (.bool (incB M)) ∧ ∃ p : Regrown, w' = grow (redrawn w p.d) p.os) := fun d os => Calls.regrown_of (rise_any A n c M _ ((hM.below (below_regrown w d os)).wider (below_regrown w d os).size) (by omega))
  have HT := Lib.hid hT
  have HM := Lib.hid hM
  have HNE := Lib.hid hne
  obtain ⟨X, hX⟩ : ∃ X : Ending → World → Prop, (fun e w' => ∃ v', e = .returned (.int .i64 (appE next M)) ∧ Rt w' base g (appN next M) v' (if okA next M = true then rAll M R else R) ∧ Trv g w w' v v') = X := ⟨_, rfl⟩
  have HXN : Hid (okA next M = false → ∀ w', Below w.heap.size w w' → X (.returned (.int .i64 8)) w') := fun h w' hb' => by
    rw [← hX]
    refine ⟨v, by unfold appE; rw [h]; rfl, ?_, Trv.of_below hb'⟩
    have hl0 : ¬ M.length = 0 := fun e => by unfold okA at h; simp [e] at h
    have hk : okM next M = false := by unfold okA at h; simpa [hl0] using h
    unfold appN
    rw [if_neg hl0, if_neg (by rw [hk]; simp), if_neg (by rw [h]; simp)]
    exact hT.below hb'
  have HXY : Hid (okA next M = true → ∀ v' w', Rt w' base g (if n = 0 then next else (M.getD (n - 1) default).off + 1) v' (rAll M R) → Trv g w w' v v' → X (.returned (.int .i64 0)) w') := fun h v' w' h1 h2 => by
    rw [← hX]
    refine ⟨v', by unfold appE; rw [if_pos h], ?_, h2⟩
    rw [if_pos h]
    unfold appN
    by_cases hl0 : M.length = 0
    · rw [if_pos hl0]; rw [if_pos (by omega)] at h1; exact h1
    · have hk : okM next M = true := by unfold okA at h; simpa [hl0] using h
      rw [if_neg hl0, if_pos hk]; rw [if_neg (by omega)] at h1; rw [hlen]; exact h1
  rw [hX]
  clear hX
  have HOK : Hid (okA next M = if n = 0 then true else (incB M && (decide (next ≤ (M.getD 0 default).off) && decide ((M.getD (n - 1) default).off ≤ 1099511627776)))) := by
    show _ = _
    unfold okA okM
    rw [hlen]
    by_cases h0 : n = 0
    · rw [if_pos h0]; simp [h0]
    · rw [if_neg h0]; simp [h0]
  have HBD : Hid (okA next M = true → ∀ k, k < n → (M.getD k default).off ≤ 1099511627776) := fun h k hk => by
    have hl0 : ¬ M.length = 0 := by omega
    have hk2 : okM next M = true := by unfold okA at h; simpa [hl0] using h
    rw [okM_iff _ _ (fun e => hl0 (by rw [e]; rfl))] at hk2
    exact (hk2.2 _ (by rw [List.getD_eq_getElem?_getD, List.getElem?_eq_getElem (by omega)]; exact List.getElem_mem _)).2
  generalize okA next M = OK at *
  have c0 : w.cell? ⟨g, 0, none⟩ = some (.int .i64 next) := cell_of_row _ _ 0 _ _ _ hT.box
  have g2 := cell_regrown c0
  clear hT hM hne c0
  go_enter Try.func48, Try.ntmps48
  go_upto_region 1 with fail
  go_cut [38] (fun s38 wx => ∃ b : Bool, s38 = .bool b ∧ Hid (OK = !b) ∧ Hid (Below w.heap.size w wx))
  case first =>
    rcases Nat.eq_zero_or_pos n with rfl | h0
    · have hIB : incB M = true := by rw [List.length_eq_zero_iff.1 hlen]; rfl
      rw [hIB] at HC
      have HO : Hid (OK = !false) := HOK.out
      clear hIB hlen HOK
      go_wp2_with fail
      refine wp_region_quiet_below (by kernel_rfl) (by kernel_rfl) ?_
      repeat (go_big_quiet_step (exact HC.out _ _))
      refine wpQuiet_nil ?_
      intro _ hw'
      obtain ⟨⟨dq, osq⟩, hw''⟩ := hw'
      subst hw''
      go_wp2_with fail
      go_meet
      exact ⟨false, rfl, HO.out, below_regrown w dq osq⟩
    · obtain ⟨m, rfl⟩ : ∃ m, n = m + 1 := ⟨n - 1, by omega⟩
      obtain ⟨p, hpA, hp, r0, _⟩ := HM.out.row (show 0 < m + 1 by omega)
      obtain ⟨p', hp', _, r1, _⟩ := HM.out.row (show m < m + 1 by omega)
      subst hpA
      injection hp' with hp'
      subst hp'
      rw [Nat.zero_mul, add_zero5] at r0
      have HO := HOK
      rw [if_neg (by omega), Nat.add_sub_cancel] at HO
      generalize (M.getD 0 default).off = o0 at *
      generalize (M.getD m default).off = o1 at *
      generalize incB M = IB at *
      have g0 := cell_regrown r0
      have g1 := cell_regrown r1
      have hmz : (0 : Int) < (m : Int) + 1 := by omega
      have hmd : decide ((0 : Int) < (m : Int) + 1) = true := by rw [decide_eq_true_iff]; omega
      clear r0 r1 HOK hlen
      cases IB with
      | false =>
        have HO2 : Hid (OK = !true) := HO.out
        clear HO
        go_wp2_with fail
        refine wp_region_quiet_below (by kernel_rfl) (by kernel_rfl) ?_
        repeat (go_big_quiet_step (exact HC.out _ _))
        refine wpQuiet_nil ?_
        intro _ hw'
        obtain ⟨⟨dq, osq⟩, hw''⟩ := hw'
        subst hw''
        go_wp2_with fail
        go_meet
        exact ⟨true, rfl, HO2.out, below_regrown w dq osq⟩
      | true =>
        by_cases h1 : o0 < next
        · have h1d : decide (o0 < next) = true := decide_eq_true h1
          have HO2 : Hid (OK = !true) := by show _ = _; rw [HO.out, decide_eq_false (by omega : ¬ next ≤ o0)]; rfl
          clear HO
          go_wp2_with fail
          refine wp_region_quiet_below (by kernel_rfl) (by kernel_rfl) ?_
          repeat (go_big_quiet_step (exact HC.out _ _))
          refine wpQuiet_nil ?_
          intro _ hw'
          obtain ⟨⟨dq, osq⟩, hw''⟩ := hw'
          subst hw''
          go_wp2_with fail
          go_meet
          exact ⟨true, rfl, HO2.out, below_regrown w dq osq⟩
        · have h1d : decide (o0 < next) = false := decide_eq_false h1
          have HO2 : Hid (OK = !decide (1099511627776 < o1)) := by
            show _ = _
            rw [HO.out, decide_eq_true (by omega : next ≤ o0)]
            by_cases h2 : o1 ≤ 1099511627776
            · rw [decide_eq_true h2, decide_eq_false (by omega : ¬ 1099511627776 < o1)]; rfl
            · rw [decide_eq_false h2, decide_eq_true (by omega : 1099511627776 < o1)]; rfl
          clear HO h1
          go_wp2_with fail
          refine wp_region_quiet_below (by kernel_rfl) (by kernel_rfl) ?_
          repeat (go_big_quiet_step (exact HC.out _ _))
          refine wpQuiet_nil ?_
          intro _ hw'
          obtain ⟨⟨dq, osq⟩, hw''⟩ := hw'
          subst hw''
          go_wp2_with fail
          go_meet
          exact ⟨_, rfl, HO2.out, below_regrown w dq osq⟩
  case rest =>
  obtain ⟨b, rfl, HOB, HB0⟩ := hcut
  clear HOK HC g2
  cases b with
  | true =>
    have HE := Lib.hid (HXN.out HOB.out wc HB0.out)
    go_wp2_with fail
    exact HE.out
  | false =>
    have HY := Lib.hid (HXY.out HOB.out)
    go_wp2_with fail
    have HBK := Lib.hid (HBD.out HOB.out)
    have HAK : Hid (∀ k, k < n → (M.getD k default).ok) := fun k hk => HM.out.ok_at hk
    have HRS : Hid (∀ k, k < n → rAll (M.take (k + 1)) R = rput (M.getD k default) (rAll (M.take k) R)) := fun k hk => rAll_snoc M R k (by omega)
    have HRE : Hid (rAll (M.take n) R = rAll M R) := by show _ = _; rw [List.take_of_length_le (by omega)]
    have HRL : Hid (∀ k, k ≤ n → (rAll (M.take k) R).length ≤ 2000) := fun k hk => by
      have h1 := rAll_len (M.take k) R
      have h2 : (M.take k).length ≤ k := by simp; omega
      show _ ≤ _
      omega
    have HR0 : Hid (rAll (M.take 0) R = R) := rfl
    obtain ⟨RL, hRL⟩ : ∃ RL : Nat → List AtC, ∀ k, RL k = rAll (M.take k) R := ⟨_, fun _ => rfl⟩
    simp only [← hRL] at HRS HRE HRL HR0
    obtain ⟨NX, hNX⟩ : ∃ NX : Nat → Int, ∀ k, NX k = (if k = 0 then next else (M.getD (k - 1) default).off + 1) := ⟨_, fun _ => rfl⟩
    have HN0 : Hid (NX 0 = next) := by show _ = _; rw [hNX, if_pos rfl]
    have HNS : Hid (∀ k, NX (k + 1) = (M.getD k default).off + 1) := fun k => by show _ = _; rw [hNX, if_neg (by omega), Nat.add_sub_cancel]
    rw [← hNX] at HY
    have HLEN := Lib.hid hlen
    clear hRL hNX HBD HOB HXN HXY hlen
    go_loopw [41] (fun iv wr => ∃ k : Nat, k ≤ n ∧ iv = .int .i64 k ∧ ∃ v', Hid (Rt wr base g (NX k) v' (RL k)) ∧ Hid (Trv g w wr v v')) (fun iv _ => n - (RowKit.intOf iv).toNat)
    case atStart => exact ⟨0, by omega, rfl, v, by rw [HN0.out, HR0.out]; exact HT.out.below HB0.out, Trv.of_below HB0.out⟩
    case round =>
      obtain ⟨k, hk, rfl, v', HTK, HTR⟩ := hrel
      by_cases hlt : k < n
      · obtain ⟨p, rfl, hp, r0, r1, r2, r3, r4⟩ := (HM.out.tr HTR.out.tr HNE.out).row hlt
        have hok := HAK.out k hlt
        have hbk := HBK.out k hlt
        have HS := Lib.hid (HRS.out k hlt)
        have HN := Lib.hid (HNS.out k)
        have hle := HRL.out k (by omega)
        have HRK := Lib.hid HTK.out.ok
        generalize hRk : RL k = Rk at *
        generalize hnk : NX k = nk at *
        clear hRk hnk
        generalize M.getD k default = re at *
        obtain ⟨off, key, value, gone, time⟩ := re
        simp only at r0 r1 r2 r3 r4 hbk HN
        have hlo := hok.1
        have HOKR := Lib.hid hok
        have hkz : (k : Int) < (n : Int) := by omega
        have hal := (Below.refl wr.heap.size wr).alloc (Nat.le_refl _) (.cells #[.int .i64 off, .string key, .string value, .bool gone, .int .i64 time] 90)
        have hN := heap_alloc_new wr (.cells #[.int .i64 off, .string key, .string value, .bool gone, .int .i64 time] 90)
        obtain ⟨w5, hw5⟩ : ∃ w5, wr.alloc (.cells #[.int .i64 off, .string key, .string value, .bool gone, .int .i64 time] 90) = w5 := ⟨_, rfl⟩
        rw [hw5] at hal hN
        have HW5 := Lib.hid hw5
        have HT5 := Lib.hid (HTK.out.below hal)
        have HTR5 := Lib.hid (HTR.out.trans (Trv.of_below hal))
        have hgx : wr.heap.size < w5.heap.size := (Array.getElem?_eq_some_iff.1 hN).1
        have HN5 := Lib.hid hN
        clear hw5 hal hok HTK HTR
        go_upto_region 6 with fail
        rw [HW5.out]
        clear r0 r1 r2 r3 r4
        obtain ⟨A2, c2, rfl, _, _, hAC⟩ := Acs.of_row HT5.out.row rfl HT5.out.ok
        have HAC := Lib.hid hAC
        have c1 : w5.cell? ⟨g, 1, none⟩ = some (.slice A2 Rk.length c2) := cell_of_row _ _ 1 _ _ _ HT5.out.box
        have HKS : Hid (∀ j, j < Rk.length → notKey key (Rk.drop j) = (if (Rk.getD j default).key = key then [] else [Rk.getD j default]) ++ notKey key (Rk.drop (j + 1))) := fun j hj => notKey_step key Rk j hj
        have HKE : Hid (notKey key (Rk.drop Rk.length) = []) := by show _ = _; rw [List.drop_length]; rfl
        have HK0 : Hid (notKey key (Rk.drop 0) = notKey key Rk) := rfl
        have HKL : Hid ((notKey key Rk).length ≤ Rk.length) := notKey_len key Rk
        have HRP : Hid (rput ⟨off, key, value, gone, time⟩ Rk = notKey key Rk ++ (if gone = true then [] else [⟨off, key, value, gone, time⟩])) := rfl
        have HRO : Hid (∀ r ∈ rput ⟨off, key, value, gone, time⟩ Rk, r.ok) := rput_ok HOKR.out HRK.out
        generalize notKey key Rk = NK at *
        have HCR : Hid (∃ D : Nat → List AtC, ∀ j, D j = notKey key (Rk.drop j)) := ⟨_, fun _ => rfl⟩
        obtain ⟨D, hD⟩ := HCR.out
        simp only [← hD] at HKS HKE HK0
        clear hD HCR hAC
        go_wp2_with fail
        clear c1
        generalize wr = wq at *
        go_loopw [7, 50] (fun o jv ws => ∃ j : Nat, j ≤ Rk.length ∧ jv = .int .i64 j ∧ ∃ C : List AtC, Hid (C ++ D j = NK) ∧ Hid (ws.ownsRow w5.heap.size 90 5 o C.length (ccells C)) ∧ Hid (Below w5.heap.size w5 ws)) (fun _ jv _ => Rk.length - (RowKit.intOf jv).toNat)
        case atStart => exact ⟨0, by omega, rfl, [], by show _ = _; rw [HK0.out]; rfl, World.ownsRow_nil _ _ _ _, Below.refl _ _⟩
        case round =>
          obtain ⟨j, hj, rfl, C, HC, HO, HB⟩ := hrel
          have hCL : C.length ≤ 2000 := by have e := congrArg List.length HC.out; have := HKL.out; rw [List.length_append] at e; omega
          have hzw := HB.out.size
          by_cases hjt : j < Rk.length
          · obtain ⟨q, rfl, _, s0, s1, s2, s3, s4⟩ := (HAC.out.below HB.out).row hjt
            have HSJ := Lib.hid (HKS.out j hjt)
            generalize Rk.getD j default = xe at *
            obtain ⟨xo, xk, xv, xg, xt⟩ := xe
            simp only at s0 s1 s2 s3 s4 HSJ
            have hjz : (j : Int) < (Rk.length : Int) := by omega
            have hal2 := (Below.refl wr.heap.size wr).alloc (Nat.le_refl _) (.cells #[.int .i64 xo, .string xk, .string xv, .bool xg, .int .i64 xt] 90)
            have hN2 := heap_alloc_new wr (.cells #[.int .i64 xo, .string xk, .string xv, .bool xg, .int .i64 xt] 90)
            have HO6 := Lib.hid (HO.out.alloc (.cells #[.int .i64 xo, .string xk, .string xv, .bool xg, .int .i64 xt] 90))
            obtain ⟨w6, hw6⟩ : ∃ w6, wr.alloc (.cells #[.int .i64 xo, .string xk, .string xv, .bool xg, .int .i64 xt] 90) = w6 := ⟨_, rfl⟩
            rw [hw6] at hal2 hN2 HO6
            have HW6 := Lib.hid hw6
            have HB6 := Lib.hid (HB.out.trans (hal2.mono hzw))
            have hx6 := (HB6.out.block wq.heap.size hgx).trans HN5.out
            clear hw6 hal2
            go_upto_region 10 with fail
            rw [HW6.out]
            have t0 := cell_of_row _ _ 0 _ _ _ hN2
            have t1 := cell_of_row _ _ 1 _ _ _ hN2
            have t2 := cell_of_row _ _ 2 _ _ _ hN2
            have t3 := cell_of_row _ _ 3 _ _ _ hN2
            have t4 := cell_of_row _ _ 4 _ _ _ hN2
            have x1 := cell_of_row _ _ 1 _ _ _ hx6
            have hz6 : w5.heap.size ≤ w6.heap.size := HB6.out.size
            clear s0 s1 s2 s3 s4 hN2 hx6
            by_cases he : xk = key
            · have e1 : (xk.toList == key.toList) = true := by rw [he]; simp
              have e2 : (xk.toList != key.toList) = false := by rw [he]; simp
              have HX : Hid (C ++ D (j + 1) = NK) := by have e := HC.out; rw [HSJ.out, if_pos he] at e; exact e
              have HO7 := HO6
              clear he HSJ
              go_wp2_with fail
              go_roundw
              case rel => exact ⟨j + 1, by omega, by go_num, C, HX, HO6, HB6⟩
              case measure => simp [RowKit.intOf]; omega
            · have hne : xk.toList ≠ key.toList := fun e => he (by
                rw [ByteArray.toList_eq, ByteArray.toList_eq] at e
                have h2 : xk.data = key.data := Array.toList_inj.1 e
                cases xk; cases key; simp at h2; rw [h2])
              have e1 : (xk.toList == key.toList) = false := by simpa using hne
              have e2 : (xk.toList != key.toList) = true := by simpa using hne
              have HX : Hid ((C ++ [⟨xo, xk, xv, xg, xt⟩]) ++ D (j + 1) = NK) := by have e := HC.out; rw [HSJ.out, if_neg he] at e; rw [List.append_assoc]; exact e
              have hown8 := HO6.out.alloc (.cells #[.int .i64 xo, .string xk, .string xv, .bool xg, .int .i64 xt] 90)
              clear he hne HSJ
              go_wp2_with (at_builtin; go_loud (refine wpList_append_own_at _ rfl (.tmp 61) (.tmp 63) 26 rfl w5.heap.size 90 k0 _ 5 56 Try.underlying26 qk0 qz0 qz1 qz2 rfl (by decide) _ C.length (ccells C) rfl hown8 ⟨w6.heap.size, 0, none⟩ 1 1 [.int .i64 xo, .string xk, .string xv, .bool xg, .int .i64 xt] rfl rfl (new_cells5 w6 [.int .i64 xo, .string xk, .string xv, .bool xg, .int .i64 xt] _) ?g1 ?g2 ?g3 ?g4 ?_))
              case g1 => first | exact ⟨rfl, rfl, rfl, rfl, rfl⟩ | (intro u hu; simp at hu; rcases hu with rfl | rfl | rfl | rfl | rfl <;> rfl)
              case g2 => unfold maxLen; omega
              case g3 => omega
              case g4 => first | omega | (simp; omega)
              intro va w7 hown7 hg7 _ _
              have HO7 : Hid (w7.ownsRow w5.heap.size 90 5 va (C ++ [(⟨xo, xk, xv, xg, xt⟩ : AtC)]).length (ccells (C ++ [(⟨xo, xk, xv, xg, xt⟩ : AtC)]))) := by show World.ownsRow _ _ _ _ _ _ _; rw [ccells_append, List.length_append]; simpa [ccells, AtC.cells] using hown7
              have HB7 := Lib.hid ((HB6.out.alloc HB6.out.size _).trans ((Below.refl _ _).grown hg7 (by have := HB6.out.size; simp; omega) (fun q hq => (World.ownsRow.lt hown8 q hq).1)))
              clear hown8 hown7 hg7 t0 t1 t2 t3 t4 x1
              go_wp2_with fail
              go_roundw
              case rel => exact ⟨j + 1, by omega, by go_num, C ++ [⟨xo, xk, xv, xg, xt⟩], HX, HO7, HB7⟩
              case measure => simp [RowKit.intOf]; omega
          · have d9 : decide ((j : Int) < (Rk.length : Int)) = false := by rw [decide_eq_false_iff_not]; omega
            have d10 : decide (j < Rk.length) = false := by rw [decide_eq_false_iff_not]; omega
            obtain hjl : j = Rk.length := by omega
            have HCN : Hid (C = NK) := by have e := HC.out; rw [hjl, HKE.out, List.append_nil] at e; exact e
            have hx5 := (HB.out.block wq.heap.size hgx).trans HN5.out
            have x0 := cell_of_row _ _ 0 _ _ _ hx5
            have x1 := cell_of_row _ _ 1 _ _ _ hx5
            have x2 := cell_of_row _ _ 2 _ _ _ hx5
            have x3 := cell_of_row _ _ 3 _ _ _ hx5
            have x4 := cell_of_row _ _ 4 _ _ _ hx5
            clear hjl hjt
            cases gone with
            | true =>
              have HF : Hid (rput ⟨off, key, value, true, time⟩ Rk = C) := by show _ = _; rw [HRP.out, HCN.out]; simp
              obtain ⟨A7, c7, rfl, _, _⟩ := row_any HO.out
              have HOQ : Hid (wr.ownsRow w5.heap.size 90 5 (.slice A7 C.length c7) (rput ⟨off, key, value, true, time⟩ Rk).length (ccells (rput ⟨off, key, value, true, time⟩ Rk))) := by show World.ownsRow _ _ _ _ _ _ _; rw [HF.out]; exact HO.out
              have HBQ := HB
              have hgl := (Array.getElem?_eq_some_iff.1 HT5.out.box).1
              have hbx := (HBQ.out.block g hgl).trans HT5.out.box
              have c0 := cell_of_row _ _ 0 _ _ _ hbx
              have c1 := cell_of_row _ _ 1 _ _ _ hbx
              have f0 := frozen_of_row _ g 0 _ _ hbx
              have f1 := frozen_of_row _ g 1 _ _ hbx
              have hFN := HT5.out.fin HBQ.out HOQ.out HRO.out (Nat.le_trans hb HTR5.out.tr.size) (off + 1)
              have HFN1 : Hid (Rt ((wr.setCell ⟨g, 1, none⟩ (.slice A7 C.length c7)).setCell ⟨g, 0, none⟩ (.int .i64 (off + 1))) base g (NX (k + 1)) (.slice A7 C.length c7) (RL (k + 1))) := by show Rt _ _ _ _ _ _; rw [HN.out, HS.out]; exact hFN.1
              have HFN2 := Lib.hid (HTR5.out.trans hFN.2)
              clear hFN hbx hgl HOQ HBQ
              go_wp2_with fail
              go_roundw
              case rel => exact ⟨k + 1, by omega, by go_num, _, HFN1, HFN2⟩
              case measure => simp [RowKit.intOf]; omega
            | false =>
              have HF : Hid (rput ⟨off, key, value, false, time⟩ Rk = C ++ [⟨off, key, value, false, time⟩]) := by show _ = _; rw [HRP.out, HCN.out]; rfl
              have hown8 := HO.out.alloc (.cells #[.int .i64 off, .string key, .string value, .bool false, .int .i64 time] 90)
              go_wp2_with (at_builtin; go_loud (refine wpList_append_own_at _ rfl (.tmp 70) (.tmp 72) 26 rfl w5.heap.size 90 k0 _ 5 56 Try.underlying26 qk0 qz0 qz1 qz2 rfl (by decide) _ C.length (ccells C) rfl hown8 ⟨wr.heap.size, 0, none⟩ 1 1 [.int .i64 off, .string key, .string value, .bool false, .int .i64 time] rfl rfl (new_cells5 wr [.int .i64 off, .string key, .string value, .bool false, .int .i64 time] _) ?g1 ?g2 ?g3 ?g4 ?_))
              case g1 => first | exact ⟨rfl, rfl, rfl, rfl, rfl⟩ | (intro u hu; simp at hu; rcases hu with rfl | rfl | rfl | rfl | rfl <;> rfl)
              case g2 => unfold maxLen; omega
              case g3 => omega
              case g4 => first | omega | (simp; omega)
              intro va w7 hown7 hg7 _ _
              obtain ⟨A7, c7, rfl, _, _⟩ := row_any hown7
              have HOQ : Hid (w7.ownsRow w5.heap.size 90 5 (.slice A7 (C.length + 1) c7) (rput ⟨off, key, value, false, time⟩ Rk).length (ccells (rput ⟨off, key, value, false, time⟩ Rk))) := by show World.ownsRow _ _ _ _ _ _ _; rw [HF.out, ccells_append, List.length_append]; simpa [ccells, AtC.cells] using hown7
              have HBQ := Lib.hid ((HB.out.alloc HB.out.size _).trans ((Below.refl _ _).grown hg7 (by have := HB.out.size; simp; omega) (fun q hq => (World.ownsRow.lt hown8 q hq).1)))
              have hx7 := (HBQ.out.block wq.heap.size hgx).trans HN5.out
              clear hown8 hown7 hg7 x0 x1 x2 x3 x4
              have x0 := cell_of_row _ _ 0 _ _ _ hx7
              clear hx7
              have hgl := (Array.getElem?_eq_some_iff.1 HT5.out.box).1
              have hbx := (HBQ.out.block g hgl).trans HT5.out.box
              have c0 := cell_of_row _ _ 0 _ _ _ hbx
              have c1 := cell_of_row _ _ 1 _ _ _ hbx
              have f0 := frozen_of_row _ g 0 _ _ hbx
              have f1 := frozen_of_row _ g 1 _ _ hbx
              have hFN := HT5.out.fin HBQ.out HOQ.out HRO.out (Nat.le_trans hb HTR5.out.tr.size) (off + 1)
              have HFN1 : Hid (Rt ((w7.setCell ⟨g, 1, none⟩ (.slice A7 (C.length + 1) c7)).setCell ⟨g, 0, none⟩ (.int .i64 (off + 1))) base g (NX (k + 1)) (.slice A7 (C.length + 1) c7) (RL (k + 1))) := by show Rt _ _ _ _ _ _; rw [HN.out, HS.out]; exact hFN.1
              have HFN2 := Lib.hid (HTR5.out.trans hFN.2)
              clear hFN hbx hgl HOQ HBQ
              go_wp2_with fail
              go_roundw
              case rel => exact ⟨k + 1, by omega, by go_num, _, HFN1, HFN2⟩
              case measure => simp [RowKit.intOf]; omega
      · obtain rfl : k = n := by omega
        have d8 : decide ((k : Int) < (k : Int)) = false := by simp
        have HE := Lib.hid (HY.out v' wr (by rw [← HRE.out]; exact HTK.out) HTR.out)
        go_wp2_with fail
        exact HE.out
end Go.Proofs.Ytmlekkbjmfknfaa
