/-
  What towpathref03.Encode does.
-/
import Derived.Test.YtniopekkfnkipaaRecV
import Derived.Test.YtniopekkfnkipaaRecDz
import Derived.Test.YtniopekkfnkipaaWireRef
import Derived.Deep.CutBlock
-- SOFT
namespace Go.Proofs.Ytniopekkfnkipaa
open Go.RowKit
set_option linter.unusedVariables false
set_option linter.unusedSimpArgs false

set_option maxRecDepth 100000 in
set_option maxHeartbeats 4000000 in
theorem rencode_no (b : Bat) (A : Option Addr) (c B : Nat) (w : World) (hL : Rcs w B A b.L.length b.L) (hB : B ≤ w.heap.size) (hl : b.L.length ≤ maxLen) (hv : validE b ≠ 0) :
    Calls Try.prog 4 #[.agg (b.cells A c)] w fun e w' => e = .returned (.tuple #[.slice none 0 0, .int .i64 (validE b)]) ∧ Below w.heap.size w w' := by
  have HV : Hid (Calls Try.prog 11 #[.agg (b.cells A c)] (w.alloc (.cells (b.cells A c) 24)) fun e w' => e = .returned (.int .i64 (validE b)) ∧ Below (w.alloc (.cells (b.cells A c) 24)).heap.size (w.alloc (.cells (b.cells A c) 24)) w') :=
    rvalid_any b A c B _ (hL.below ((Below.refl _ _).alloc hB _)) (by simp; omega) hl
  have hne : (validE b != 0) = true := by simpa using hv
  generalize validE b = V at *
  obtain ⟨base, pid, epoch, seq, kind, time, L⟩ := b
  unfold Bat.cells at *
  simp only at *
  clear hL hv
  go_enter Try.func4, Try.ntmps4
  go_wp2_with (go_at_call 11; refine HV.out.mono ?_; rintro e w1 ⟨rfl, hb1⟩)
  go_ret2
  exact ⟨rfl, ((Below.refl _ _).alloc (Nat.le_refl _) _).trans (hb1.mono (by simp))⟩

theorem own_two2 (w : World) (a b : UInt8) (u v : Value) (h : u = bv a) (h2 : v = bv b) : Own (w.alloc (.cells #[u, v] 5)) w.heap.size (.slice (some ⟨w.heap.size, 0, none⟩) 2 2) [a, b] := by
  subst h h2
  refine ⟨rfl, .inr ⟨w.heap.size, 2, #[bv a, bv b], rfl, Nat.le_refl _, heap_alloc_new w _, Nat.le_refl _, by unfold maxLen; omega, rfl, rfl⟩⟩
theorem own_app {w2 w3 : World} {base m : Nat} {v3 : Value} {acc ex : List UInt8} (h : w3.ownsRow base 5 1 v3 (acc.length + m) (bvs acc ++ bvs ex)) (hm : ex.length = m) : Own w3 base v3 (acc ++ ex) := by
  unfold Own
  rw [bvs_append, List.length_append, hm]
  exact h
/-- what stands between two statements: the bytes so far, and the batch -/
structure Ra (w1 wx : World) (v : Value) (acc : List UInt8) (m : Nat) : Prop where
  own : Own wx w1.heap.size v acc
  len : acc.length ≤ m
  below : Below w1.heap.size w1 wx
/-- behind a call that told bytes, and the append of these -/
theorem Ra.app {w1 wx wa wb : World} {v v' : Value} {acc ex : List UInt8} {m k n : Nat} (h : Ra w1 wx v acc m) (hb : Below wx.heap.size wx wa) (ho : wb.ownsRow w1.heap.size 5 1 v' (acc.length + n) (bvs acc ++ bvs ex)) (hg : wa.grownBy wb v.ownBlock) (hn : ex.length = n) (hk : n ≤ k) : Ra w1 wb v' (acc ++ ex) (m + k) :=
  ⟨own_app (w2 := wx) ho hn, by rw [List.length_append]; have := h.len; omega, (h.below.trans (hb.mono h.below.size)).trans (grown_below (h.own.below hb (Nat.le_refl _)) hg (Nat.le_trans h.below.size hb.size))⟩

theorem Ra.below_ {w1 wx wa : World} {v : Value} {acc : List UInt8} {m : Nat} (h : Ra w1 wx v acc m) (hb : Below wx.heap.size wx wa) : Ra w1 wa v acc m :=
  ⟨h.own.below hb (Nat.le_refl _), h.len, h.below.trans (hb.mono h.below.size)⟩
theorem Ra.more {w1 wx : World} {v : Value} {acc acc' : List UInt8} {m m' : Nat} (h : Ra w1 wx v acc m) (e : acc' = acc) (hm : m ≤ m') : Ra w1 wx v acc' m' := by
  subst e
  exact ⟨h.own, Nat.le_trans h.len hm, h.below⟩
/-- another block, which stays -/
structure Kp (wx : World) (v : Value) (rb : Nat) (ob : Obj) : Prop where
  blk : wx.heap[rb]? = some ob
  ne : v.ownBlock ≠ some rb
theorem Kp.below_ {wx wa : World} {v : Value} {rb : Nat} {ob : Obj} (h : Kp wx v rb ob) (hb : Below wx.heap.size wx wa) : Kp wa v rb ob :=
  ⟨(hb.block rb (Array.getElem?_eq_some_iff.1 h.blk).1).trans h.blk, h.ne⟩
theorem Kp.app {wx wa wb : World} {v v' : Value} {rb : Nat} {ob : Obj} (h : Kp wx v rb ob) (hb : Below wx.heap.size wx wa) (hg : wa.grownBy wb v.ownBlock) (hat : v'.ownBlock = v.ownBlock ∨ v'.ownBlock = some wa.heap.size) : Kp wb v' rb ob := by
  have hl : rb < wx.heap.size := (Array.getElem?_eq_some_iff.1 h.blk).1
  have hs := hb.size
  refine ⟨(hg.block rb (by omega) (fun e => h.ne e.symm)).trans (h.below_ hb).blk, ?_⟩
  rcases hat with e | e
  · rw [e]; exact h.ne
  · rw [e]; intro e2; injection e2 with e2; omega
theorem Ra.new {w1 wx : World} {v : Value} {acc : List UInt8} {m : Nat} (h : Ra w1 wx v acc m) (cs : Array Value) (ty : TypeId) : Kp (wx.alloc (.cells cs ty)) v wx.heap.size (.cells cs ty (0, 0)) :=
  ⟨heap_alloc_new wx _, fun e => by have := (World.ownsRow.lt h.own _ e).2; omega⟩

set_option maxRecDepth 100000 in
set_option maxHeartbeats 8000000 in
theorem rencode_yes' (mk : Bool) (base pid epoch seq kind time : Nat) (L : List Rec) (A : Option Addr) (c B : Nat) (w : World) (hL : Rcs w B A L.length L) (hB : B ≤ w.heap.size)
    (k1 : base ≤ 1099511627776) (k2 : pid ≤ 1048576) (k3 : epoch ≤ 32767) (k4 : seq ≤ 2147483647) (k5 : kind ≤ 3) (k6 : time ≤ 1099511627776) (hmk : markB ⟨base, pid, epoch, seq, kind, time, L⟩ = mk) (hv : validE ⟨base, pid, epoch, seq, kind, time, L⟩ = 0) (hlen : L.length ≤ 64) (hrec : ∀ r ∈ L, recE r = 0) :
    Calls Try.prog 4 #[.agg #[.int .i64 (base : Int), .int .i64 (pid : Int), .int .i64 (epoch : Int), .int .i64 (seq : Int), .int .i64 (kind : Int), .int .i64 (time : Int), .slice A L.length c]] w fun e w' => ∃ v, e = .returned (.tuple #[v, .int .i64 0]) ∧ Own w' w.heap.size v (if mk then headS mk base pid epoch seq kind time else headS mk base pid epoch seq kind time ++ Wn.enc L.length ++ (rowsS L time L.length).flatten) ∧ Below w.heap.size w w' := by
  obtain ⟨i0, hi0, hz0, hz1, hz2⟩ := info_parts byte_info
  have HVa : Hid (∀ W, Below w.heap.size w W → Calls Try.prog 11 #[.agg #[.int .i64 (base : Int), .int .i64 (pid : Int), .int .i64 (epoch : Int), .int .i64 (seq : Int), .int .i64 (kind : Int), .int .i64 (time : Int), .slice A L.length c]] W fun e w' => e = .returned (.int .i64 0) ∧ Below W.heap.size W w') := fun W h => by
    have := rvalid_any ⟨base, pid, epoch, seq, kind, time, L⟩ A c B W (hL.below (h.mono hB)) (Nat.le_trans hB h.size) (by unfold maxLen; simp only; omega)
    rw [hv] at this
    exact this
  have HMa : Hid (∀ W, Calls Try.prog 13 #[.agg #[.int .i64 (base : Int), .int .i64 (pid : Int), .int .i64 (epoch : Int), .int .i64 (seq : Int), .int .i64 (kind : Int), .int .i64 (time : Int), .slice A L.length c]] W fun e w' => e = .returned (.bool mk) ∧ Below W.heap.size W w') := fun W => by
    have := rmark_any ⟨base, pid, epoch, seq, kind, time, L⟩ A c W
    rw [hmk] at this
    exact this
  have HUI : Hid (∀ (n : Nat) (W : World), n < 18446744073709551616 → Calls Try.prog 12 #[.int .u64 (n : Int)] W fun e w' => ∃ v', e = .returned v' ∧ Own w' W.heap.size v' (Wn.enc n) ∧ Below W.heap.size W w') := fun n W h => refUint_any n W h
  have HRL := Lib.hid (rowsS_each L time hrec)
  have HRE := Lib.hid hrec
  have HLL := Lib.hid hL
  have HHS : Hid (headS mk base pid epoch seq kind time = ((((Wn.enc 1 ++ Wn.enc kind) ++ Wn.enc base) ++ Wn.enc pid) ++ (if pid = 0 then [] else Wn.enc epoch) ++ (if pid = 0 ∨ mk = true then [] else Wn.enc seq)) ++ Wn.enc time) := by
    show _ = _
    unfold headS
    by_cases hp : pid = 0
    · simp [hp]
    · cases mk <;> simp [hp]
  generalize headS mk base pid epoch seq kind time = hd at *
  have e12 : Wn.enc 1 ++ Wn.enc kind = [1, UInt8.ofNat kind] := by rw [enc_small 1 (by omega), enc_small kind (by omega)]; rfl
  rw [e12] at HHS
  have ekb := bv_ofNat kind (by omega)
  have HW := Lib.hid ((Below.refl w.heap.size w).alloc (Nat.le_refl _) (.cells #[.int .i64 (base : Int), .int .i64 (pid : Int), .int .i64 (epoch : Int), .int .i64 (seq : Int), .int .i64 (kind : Int), .int .i64 (time : Int), .slice A L.length c] 24))
  have hk := heap_alloc_new w (.cells #[.int .i64 (base : Int), .int .i64 (pid : Int), .int .i64 (epoch : Int), .int .i64 (seq : Int), .int .i64 (kind : Int), .int .i64 (time : Int), .slice A L.length c] 24)
  generalize hw1 : w.alloc (.cells #[.int .i64 (base : Int), .int .i64 (pid : Int), .int .i64 (epoch : Int), .int .i64 (seq : Int), .int .i64 (kind : Int), .int .i64 (time : Int), .slice A L.length c] 24) = w1 at *
  have HW1 := Lib.hid hw1
  have HK := Lib.hid hk
  have hz1' : w1.heap.size = w.heap.size + 1 := by rw [← hw1]; simp
  have HZ1 := Lib.hid hz1'
  clear hw1 hk hL hmk hv hrec e12
  have HKX : Hid (∀ wx, Below w1.heap.size w1 wx → wx.heap[w.heap.size]? = some (.cells #[.int .i64 (base : Int), .int .i64 (pid : Int), .int .i64 (epoch : Int), .int .i64 (seq : Int), .int .i64 (kind : Int), .int .i64 (time : Int), .slice A L.length c] 24 (0, 0))) := fun wx h => (h.block w.heap.size (by have := HZ1.out; omega)).trans HK.out
  have HF : Hid (∀ wx, Below w1.heap.size w1 wx → w.heap.size < wx.heap.size) := fun wx h => by have := h.size; have := HZ1.out; omega
  clear hz1'
  go_enter Try.func4, Try.ntmps4
  go_wp2_with fail
  rw [HW1.out]
  refine (HVa.out w1 HW.out).mono ?_
  rintro e w2 ⟨rfl, hb2⟩
  have HB2 := Lib.hid hb2
  have c4 := cell_of_row _ _ 4 _ _ _ (HKX.out w2 hb2)
  have HO : Hid (Ra w1 (w2.alloc (.cells #[.int .u8 1, .int .u8 (kind : Int)] 5)) (.slice (some ⟨w2.heap.size, 0, none⟩) 2 2) [1, UInt8.ofNat kind] 10) := ⟨(own_two2 w2 1 (UInt8.ofNat kind) _ _ rfl ekb).base_le hb2.size, by simp, hb2.alloc hb2.size _⟩
  clear hb2 HVa ekb
  go_upto_region 5 with fail
  generalize w2.alloc (.cells #[.int .u8 1, .int .u8 (kind : Int)] 5) = w3 at *
  generalize (Value.slice (some ⟨w2.heap.size, 0, none⟩) 2 2) = v3 at *
  generalize ([1, UInt8.ofNat kind] : List UInt8) = a0 at *
  clear c4

  have f0_3 := cell_of_row _ _ 0 _ _ _ (HKX.out w3 HO.out.below)
  obtain ⟨ex3, hex3⟩ : ∃ ex, Wn.enc base = ex := ⟨_, rfl⟩
  have HC3 := Lib.hid (HUI.out base w3 (by omega))
  rw [hex3] at HC3
  have hel3 : ex3.length ≤ 10 := by rw [← hex3]; exact (Wn.enc_len _).2
  obtain ⟨en3, hen3⟩ : ∃ en, ex3.length = en := ⟨_, rfl⟩
  rw [hen3] at hel3
  have HEX3 := Lib.hid hex3
  have HEN3 := Lib.hid hen3
  clear hex3 hen3
  go_wp2_with fail
  refine HC3.out.mono ?_
  rintro e wa3 ⟨va3, rfl, hoa3, hba3⟩
  obtain ⟨A3, c3', rfl, hc3, hm3, hbs3, _, _⟩ := hoa3.form
  rw [HEN3.out] at hbs3 hc3
  rw [HEN3.out]
  have hw3 := HO.out.own.below hba3 (Nat.le_refl _)
  have hl3 := HO.out.len
  have hs3 : w1.heap.size ≤ wa3.heap.size := Nat.le_trans HO.out.below.size hba3.size
  have HBA3 := Lib.hid hba3
  clear hoa3 hba3 HC3
  go_wp2_with (at_builtin; refine wpList_append_src _ rfl (.tmp 18) (.tmp 22) 25 rfl w1.heap.size 5 i0 _ 1 Try.underlying25 hi0 hz0 hz1 hz2 rfl _ a0.length (bvs a0) rfl hw3 wa3.heap.size A3 en3 c3' (bvs ex3) rfl ?h1 hbs3.lies (bvs_one _) ?h2 ?h3 ?h4 ?_)
  case h1 => rw [bvs_length]; exact HEN3.out
  case h2 => unfold maxLen; omega
  case h3 => omega
  case h4 => omega
  intro vb3 wb3 hob3 hgb3 hat3
  have HR3 := Lib.hid (HO.out.app HBA3.out hob3 hgb3 HEN3.out hel3)
  rw [← HEX3.out] at HR3
  clear hat3 hob3 hgb3 hw3 hbs3 HBA3 hs3 hl3 hel3 HEX3 HEN3
  generalize a0 ++ Wn.enc base = a1 at *
  clear HO
  have f1_4 := cell_of_row _ _ 1 _ _ _ (HKX.out wb3 HR3.out.below)
  obtain ⟨ex4, hex4⟩ : ∃ ex, Wn.enc pid = ex := ⟨_, rfl⟩
  have HC4 := Lib.hid (HUI.out pid wb3 (by omega))
  rw [hex4] at HC4
  have hel4 : ex4.length ≤ 10 := by rw [← hex4]; exact (Wn.enc_len _).2
  obtain ⟨en4, hen4⟩ : ∃ en, ex4.length = en := ⟨_, rfl⟩
  rw [hen4] at hel4
  have HEX4 := Lib.hid hex4
  have HEN4 := Lib.hid hen4
  clear hex4 hen4
  go_wp2_with fail
  refine HC4.out.mono ?_
  rintro e wa4 ⟨va4, rfl, hoa4, hba4⟩
  obtain ⟨A4, c4', rfl, hc4, hm4, hbs4, _, _⟩ := hoa4.form
  rw [HEN4.out] at hbs4 hc4
  rw [HEN4.out]
  have hw4 := HR3.out.own.below hba4 (Nat.le_refl _)
  have hl4 := HR3.out.len
  have hs4 : w1.heap.size ≤ wa4.heap.size := Nat.le_trans HR3.out.below.size hba4.size
  have HBA4 := Lib.hid hba4
  clear hoa4 hba4 HC4
  go_wp2_with (at_builtin; refine wpList_append_src _ rfl (.tmp 24) (.tmp 28) 25 rfl w1.heap.size 5 i0 _ 1 Try.underlying25 hi0 hz0 hz1 hz2 rfl _ a1.length (bvs a1) rfl hw4 wa4.heap.size A4 en4 c4' (bvs ex4) rfl ?h1 hbs4.lies (bvs_one _) ?h2 ?h3 ?h4 ?_)
  case h1 => rw [bvs_length]; exact HEN4.out
  case h2 => unfold maxLen; omega
  case h3 => omega
  case h4 => omega
  intro vb4 wb4 hob4 hgb4 hat4
  have HR4 := Lib.hid (HR3.out.app HBA4.out hob4 hgb4 HEN4.out hel4)
  rw [← HEX4.out] at HR4
  clear hat4 hob4 hgb4 hw4 hbs4 HBA4 hs4 hl4 hel4 HEX4 HEN4
  generalize a1 ++ Wn.enc pid = a2 at *
  clear HR3
  have f1 := cell_of_row _ _ 1 _ _ _ (HKX.out wb4 HR4.out.below)
  go_upto_if 32 with fail
  clear f1
  go_cut [5] (fun s5 wx => ∃ v, s5 = v ∧ Hid (Ra w1 wx v (a2 ++ (if pid = 0 then [] else Wn.enc epoch)) 40))
  case first =>
    by_cases hp : pid = 0
    · have d1 : decide ((0 : Int) < (pid : Int)) = false := decide_eq_false (by omega)
      have d2 : decide (0 < pid) = false := decide_eq_false (by omega)
      go_wp2_with fail
      go_meet
      exact ⟨_, rfl, HR4.out.more (by rw [if_pos hp, List.append_nil]) (by omega)⟩
    · have d1 : decide ((0 : Int) < (pid : Int)) = true := decide_eq_true (by omega)
      have d2 : decide (0 < pid) = true := decide_eq_true (by omega)
      have f2_5 := cell_of_row _ _ 2 _ _ _ (HKX.out wb4 HR4.out.below)
      obtain ⟨ex5, hex5⟩ : ∃ ex, Wn.enc epoch = ex := ⟨_, rfl⟩
      have HC5 := Lib.hid (HUI.out epoch wb4 (by omega))
      rw [hex5] at HC5
      have hel5 : ex5.length ≤ 10 := by rw [← hex5]; exact (Wn.enc_len _).2
      obtain ⟨en5, hen5⟩ : ∃ en, ex5.length = en := ⟨_, rfl⟩
      rw [hen5] at hel5
      have HEX5 := Lib.hid hex5
      have HEN5 := Lib.hid hen5
      clear hex5 hen5
      go_wp2_with fail
      refine HC5.out.mono ?_
      rintro e wa5 ⟨va5, rfl, hoa5, hba5⟩
      obtain ⟨A5, c5', rfl, hc5, hm5, hbs5, _, _⟩ := hoa5.form
      rw [HEN5.out] at hbs5 hc5
      rw [HEN5.out]
      have hw5 := HR4.out.own.below hba5 (Nat.le_refl _)
      have hl5 := HR4.out.len
      have hs5 : w1.heap.size ≤ wa5.heap.size := Nat.le_trans HR4.out.below.size hba5.size
      have HBA5 := Lib.hid hba5
      clear hoa5 hba5 HC5
      go_wp2_with (at_builtin; refine wpList_append_src _ rfl (.tmp 33) (.tmp 37) 25 rfl w1.heap.size 5 i0 _ 1 Try.underlying25 hi0 hz0 hz1 hz2 rfl _ a2.length (bvs a2) rfl hw5 wa5.heap.size A5 en5 c5' (bvs ex5) rfl ?h1 hbs5.lies (bvs_one _) ?h2 ?h3 ?h4 ?_)
      case h1 => rw [bvs_length]; exact HEN5.out
      case h2 => unfold maxLen; omega
      case h3 => omega
      case h4 => omega
      intro vb5 wb5 hob5 hgb5 hat5
      have HR5 := Lib.hid (HR4.out.app HBA5.out hob5 hgb5 HEN5.out hel5)
      rw [← HEX5.out] at HR5
      clear hat5 hob5 hgb5 hw5 hbs5 HBA5 hs5 hl5 hel5 HEX5 HEN5
      go_wp2_with fail
      go_meet
      exact ⟨_, rfl, HR5.out.more (by rw [if_neg hp]) (by omega)⟩
  case rest =>
    obtain ⟨_, rfl, HQ⟩ := hcut
    generalize a2 ++ (if pid = 0 then [] else Wn.enc epoch) = a3 at *
    clear HR4
    go_upto_region 9 with fail
    obtain ⟨sb, hsb⟩ : ∃ sb, (decide (0 < pid) && !mk) = sb := ⟨_, rfl⟩
    have HSB := Lib.hid hsb
    clear hsb
    go_cut [46] (fun s46 wx => s46 = .bool sb ∧ Hid (Ra w1 wx u5 a3 40))
    case first =>
      have q0_a := cell_of_row _ _ 0 _ _ _ (HKX.out wc HQ.out.below)
      have q1_a := cell_of_row _ _ 1 _ _ _ (HKX.out wc HQ.out.below)
      have q2_a := cell_of_row _ _ 2 _ _ _ (HKX.out wc HQ.out.below)
      have q3_a := cell_of_row _ _ 3 _ _ _ (HKX.out wc HQ.out.below)
      have q4_a := cell_of_row _ _ 4 _ _ _ (HKX.out wc HQ.out.below)
      have q5_a := cell_of_row _ _ 5 _ _ _ (HKX.out wc HQ.out.below)
      have q6_a := cell_of_row _ _ 6 _ _ _ (HKX.out wc HQ.out.below)
      by_cases hp : pid = 0
      · have d1 : decide ((0 : Int) < (pid : Int)) = false := decide_eq_false (by omega)
        have d2 : decide (0 < pid) = false := decide_eq_false (by omega)
        go_wp2_with fail
        go_meet
        exact ⟨by rw [← HSB.out, d2]; rfl, HQ⟩
      · have d1 : decide ((0 : Int) < (pid : Int)) = true := decide_eq_true (by omega)
        have d2 : decide (0 < pid) = true := decide_eq_true (by omega)
        go_wp2_with fail
        refine (HMa.out _).mono ?_
        rintro e wm ⟨rfl, hbm⟩
        have HQm := Lib.hid (HQ.out.below_ hbm)
        clear hbm q0_a q1_a q2_a q3_a q4_a q5_a q6_a
        go_wp2_with fail
        go_meet
        exact ⟨by rw [← HSB.out, d2]; first | rfl | simp, HQm⟩
    case rest =>
    obtain ⟨rfl, HQm⟩ := hcut
    clear HQ
    go_upto_if 46 with fail
    go_cut [5] (fun s5 wx => ∃ v, s5 = v ∧ Hid (Ra w1 wx v (a3 ++ (if pid = 0 ∨ mk = true then [] else Wn.enc seq)) 60))
    case first =>
      cases sb with
      | false =>
        have hq : pid = 0 ∨ mk = true := by have := HSB.out; by_cases h : pid = 0; exact .inl h; right; cases mk; simp at this; omega; rfl
        go_wp2_with fail
        go_meet
        exact ⟨_, rfl, HQm.out.more (by rw [if_pos hq, List.append_nil]) (by omega)⟩
      | true =>
        have hq : ¬ (pid = 0 ∨ mk = true) := by have := HSB.out; simp at this; intro h; rcases h with h | h; omega; rw [h] at this; simp at this
        have f3_6 := cell_of_row _ _ 3 _ _ _ (HKX.out wc HQm.out.below)
        obtain ⟨ex6, hex6⟩ : ∃ ex, Wn.enc seq = ex := ⟨_, rfl⟩
        have HC6 := Lib.hid (HUI.out seq wc (by omega))
        rw [hex6] at HC6
        have hel6 : ex6.length ≤ 10 := by rw [← hex6]; exact (Wn.enc_len _).2
        obtain ⟨en6, hen6⟩ : ∃ en, ex6.length = en := ⟨_, rfl⟩
        rw [hen6] at hel6
        have HEX6 := Lib.hid hex6
        have HEN6 := Lib.hid hen6
        clear hex6 hen6
        go_wp2_with fail
        refine HC6.out.mono ?_
        rintro e wa6 ⟨va6, rfl, hoa6, hba6⟩
        obtain ⟨A6, c6', rfl, hc6, hm6, hbs6, _, _⟩ := hoa6.form
        rw [HEN6.out] at hbs6 hc6
        rw [HEN6.out]
        have hw6 := HQm.out.own.below hba6 (Nat.le_refl _)
        have hl6 := HQm.out.len
        have hs6 : w1.heap.size ≤ wa6.heap.size := Nat.le_trans HQm.out.below.size hba6.size
        have HBA6 := Lib.hid hba6
        clear hoa6 hba6 HC6
        go_wp2_with (at_builtin; refine wpList_append_src _ rfl (.tmp 47) (.tmp 51) 25 rfl w1.heap.size 5 i0 _ 1 Try.underlying25 hi0 hz0 hz1 hz2 rfl _ a3.length (bvs a3) rfl hw6 wa6.heap.size A6 en6 c6' (bvs ex6) rfl ?h1 hbs6.lies (bvs_one _) ?h2 ?h3 ?h4 ?_)
        case h1 => rw [bvs_length]; exact HEN6.out
        case h2 => unfold maxLen; omega
        case h3 => omega
        case h4 => omega
        intro vb6 wb6 hob6 hgb6 hat6
        have HR6 := Lib.hid (HQm.out.app HBA6.out hob6 hgb6 HEN6.out hel6)
        rw [← HEX6.out] at HR6
        clear hat6 hob6 hgb6 hw6 hbs6 HBA6 hs6 hl6 hel6 HEX6 HEN6
        go_wp2_with fail
        go_meet
        exact ⟨_, rfl, HR6.out.more (by rw [if_neg hq]) (by omega)⟩
    case rest =>
      obtain ⟨_, rfl, HQ6⟩ := hcut
      generalize a3 ++ (if pid = 0 ∨ mk = true then [] else Wn.enc seq) = a4 at *
      clear HQm
      have f5_7 := cell_of_row _ _ 5 _ _ _ (HKX.out wc HQ6.out.below)
      obtain ⟨ex7, hex7⟩ : ∃ ex, Wn.enc time = ex := ⟨_, rfl⟩
      have HC7 := Lib.hid (HUI.out time wc (by omega))
      rw [hex7] at HC7
      have hel7 : ex7.length ≤ 10 := by rw [← hex7]; exact (Wn.enc_len _).2
      obtain ⟨en7, hen7⟩ : ∃ en, ex7.length = en := ⟨_, rfl⟩
      rw [hen7] at hel7
      have HEX7 := Lib.hid hex7
      have HEN7 := Lib.hid hen7
      clear hex7 hen7
      go_wp2_with fail
      refine HC7.out.mono ?_
      rintro e wa7 ⟨va7, rfl, hoa7, hba7⟩
      obtain ⟨A7, c7', rfl, hc7, hm7, hbs7, _, _⟩ := hoa7.form
      rw [HEN7.out] at hbs7 hc7
      rw [HEN7.out]
      have hw7 := HQ6.out.own.below hba7 (Nat.le_refl _)
      have hl7 := HQ6.out.len
      have hs7 : w1.heap.size ≤ wa7.heap.size := Nat.le_trans HQ6.out.below.size hba7.size
      have HBA7 := Lib.hid hba7
      clear hoa7 hba7 HC7
      go_wp2_with (at_builtin; refine wpList_append_src _ rfl (.tmp 53) (.tmp 57) 25 rfl w1.heap.size 5 i0 _ 1 Try.underlying25 hi0 hz0 hz1 hz2 rfl _ a4.length (bvs a4) rfl hw7 wa7.heap.size A7 en7 c7' (bvs ex7) rfl ?h1 hbs7.lies (bvs_one _) ?h2 ?h3 ?h4 ?_)
      case h1 => rw [bvs_length]; exact HEN7.out
      case h2 => unfold maxLen; omega
      case h3 => omega
      case h4 => omega
      intro vb7 wb7 hob7 hgb7 hat7
      have HR7 := Lib.hid (HQ6.out.app HBA7.out hob7 hgb7 HEN7.out hel7)
      rw [← HEX7.out] at HR7
      clear hat7 hob7 hgb7 hw7 hbs7 HBA7 hs7 hl7 hel7 HEX7 HEN7
      rw [← HHS.out] at HR7
      clear HQ6
      have q0_b := cell_of_row _ _ 0 _ _ _ (HKX.out wb7 HR7.out.below)
      have q1_b := cell_of_row _ _ 1 _ _ _ (HKX.out wb7 HR7.out.below)
      have q2_b := cell_of_row _ _ 2 _ _ _ (HKX.out wb7 HR7.out.below)
      have q3_b := cell_of_row _ _ 3 _ _ _ (HKX.out wb7 HR7.out.below)
      have q4_b := cell_of_row _ _ 4 _ _ _ (HKX.out wb7 HR7.out.below)
      have q5_b := cell_of_row _ _ 5 _ _ _ (HKX.out wb7 HR7.out.below)
      have q6_b := cell_of_row _ _ 6 _ _ _ (HKX.out wb7 HR7.out.below)
      go_wp2_with fail
      refine (HMa.out _).mono ?_
      rintro e wm ⟨rfl, hbm⟩
      have HQ7 := Lib.hid (HR7.out.below_ hbm)
      clear hbm q0_b q1_b q2_b q3_b q4_b q5_b q6_b
      cases mk with
      | true =>
        go_wp2_with fail
        go_ret2
        exact ⟨_, rfl, HQ7.out.own.base_le HW.out.size, HW.out.trans (HQ7.out.below.mono HW.out.size)⟩
      | false =>
        obtain ⟨nL, hnL⟩ : ∃ nL, L.length = nL := ⟨_, rfl⟩
        rw [hnL] at HKX HLL hlen HK ⊢
        have HNL := Lib.hid hnL
        clear hnL
        have f6_8 := cell_of_row _ _ 6 _ _ _ (HKX.out wm HQ7.out.below)
        obtain ⟨ex8, hex8⟩ : ∃ ex, Wn.enc nL = ex := ⟨_, rfl⟩
        have HC8 := Lib.hid (HUI.out nL wm (by omega))
        rw [hex8] at HC8
        have hel8 : ex8.length ≤ 10 := by rw [← hex8]; exact (Wn.enc_len _).2
        obtain ⟨en8, hen8⟩ : ∃ en, ex8.length = en := ⟨_, rfl⟩
        rw [hen8] at hel8
        have HEX8 := Lib.hid hex8
        have HEN8 := Lib.hid hen8
        clear hex8 hen8
        go_wp2_with fail
        refine HC8.out.mono ?_
        rintro e wa8 ⟨va8, rfl, hoa8, hba8⟩
        obtain ⟨A8, c8', rfl, hc8, hm8, hbs8, _, _⟩ := hoa8.form
        rw [HEN8.out] at hbs8 hc8
        rw [HEN8.out]
        have hw8 := HQ7.out.own.below hba8 (Nat.le_refl _)
        have hl8 := HQ7.out.len
        have hs8 : w1.heap.size ≤ wa8.heap.size := Nat.le_trans HQ7.out.below.size hba8.size
        have HBA8 := Lib.hid hba8
        clear hoa8 hba8 HC8
        go_wp2_with (at_builtin; refine wpList_append_src _ rfl (.tmp 62) (.tmp 67) 25 rfl w1.heap.size 5 i0 _ 1 Try.underlying25 hi0 hz0 hz1 hz2 rfl _ hd.length (bvs hd) rfl hw8 wa8.heap.size A8 en8 c8' (bvs ex8) rfl ?h1 hbs8.lies (bvs_one _) ?h2 ?h3 ?h4 ?_)
        case h1 => rw [bvs_length]; exact HEN8.out
        case h2 => unfold maxLen; omega
        case h3 => omega
        case h4 => omega
        intro vb8 wb8 hob8 hgb8 hat8
        have HR8 := Lib.hid (HQ7.out.app HBA8.out hob8 hgb8 HEN8.out hel8)
        rw [← HEX8.out] at HR8
        clear hat8 hob8 hgb8 hw8 hbs8 HBA8 hs8 hl8 hel8 HEX8 HEN8
        obtain ⟨a6, ha6⟩ : ∃ a6, hd ++ Wn.enc nL = a6 := ⟨_, rfl⟩
        rw [ha6] at HR8
        have HA6 := Lib.hid ha6
        clear ha6
        have c6 := cell_of_row _ _ 6 _ _ _ (HKX.out wb8 HR8.out.below)
        clear HQ7 HR7
        go_wp2_with fail
        clear c6
        go_loopw [5, 72] (fun v i wr => ∃ k : Nat, k ≤ nL ∧ i = .int .i64 k ∧ Hid (Ra w1 wr v (a6 ++ (rowsS L time k).flatten) (100 + 4000 * k))) (fun _ i _ => nL - (intOf i).toNat)
        case atStart => exact ⟨0, by omega, rfl, HR8.out.more (by simp [rowsS]) (by omega)⟩
        case round =>
          obtain ⟨k, hk, rfl, HR⟩ := hrel
          by_cases hlt : k < nL
          · have HBW := Lib.hid (HW.out.trans (HR.out.below.mono HW.out.size))
            obtain ⟨p, rfl, hp, r0, r1, r2, r3⟩ := (HLL.out.below (HBW.out.mono hB)).row hlt
            have hkz : (k : Int) < (nL : Int) := by omega
            have hmem : ∀ j, j < nL → recE (L.getD j default) = 0 := fun j hj => HRE.out _ (by rw [List.getD_eq_getElem?_getD, List.getElem?_eq_getElem (by rw [HNL.out]; exact hj)]; exact List.getElem_mem _)
            obtain ⟨x1, x2, x3, x4, _⟩ := recE_zero (hmem k hlt)
            have HS := Lib.hid (rowsS_succ L time k)
            have hRS : recS (L.getD k default) time (prevKey L k) = Wn.enc (Wn.zig ((L.getD k default).time - time)) ++ encF_ (L.getD k default).gone ++ Wn.enc (comm (prevKey L k).data.toList (L.getD k default).key.data.toList) ++ encT ((L.getD k default).key.extract (comm (prevKey L k).data.toList (L.getD k default).key.data.toList) (L.getD k default).key.size) ++ (if (L.getD k default).gone then [] else encT (L.getD k default).value) := rfl
            have HRS := Lib.hid hRS
            have HP0 : Hid (k = 0 → prevKey L k = ⟨#[]⟩) := fun h => by subst h; rfl
            have HPK : Hid (0 < k → ∃ q, q + 1 = k ∧ prevKey L k = (L.getD q default).key ∧ recE (L.getD q default) = 0) := fun h => ⟨k - 1, by omega, by obtain ⟨q, rfl⟩ : ∃ q, k = q + 1 := ⟨k - 1, by omega⟩; rfl, hmem (k - 1) (by omega)⟩
            have HCOM := Lib.hid (comm_at (prevKey L k).data.toList (L.getD k default).key.data.toList)
            have hcle := comm_le (prevKey L k).data.toList (L.getD k default).key.data.toList
            have HLK : Hid ((L.getD k default).key.data.toList.length = (L.getD k default).key.size) := by show _ = _; simp
            have HLP : Hid ((prevKey L k).data.toList.length = (prevKey L k).size) := by show _ = _; simp
            rw [HLK.out, HLP.out] at hcle
            have hprev : 0 < k → ∃ q, q + 1 = k ∧ ∃ r0, w1.heap.size ≤ w1.heap.size ∧ r0 = 0 := fun h => ⟨k - 1, by omega, 0, Nat.le_refl _, rfl⟩
            clear hprev hRS hmem
            have HKP := Lib.hid (HR.out.new #[.string (L.getD k default).key, .string (L.getD k default).value, .bool (L.getD k default).gone, .int .i64 (L.getD k default).time] 40)
            have hal := (Below.refl wr.heap.size wr).alloc (Nat.le_refl _) (.cells #[.string (L.getD k default).key, .string (L.getD k default).value, .bool (L.getD k default).gone, .int .i64 (L.getD k default).time] 40)
            have HRa := Lib.hid (HR.out.below_ hal)
            have HBWa := Lib.hid (HW.out.trans (HRa.out.below.mono HW.out.size))
            have HRW := Lib.hid (HLL.out.below (HBWa.out.mono hB))
            have hzr : wr.heap.size < (wr.alloc (.cells #[.string (L.getD k default).key, .string (L.getD k default).value, .bool (L.getD k default).gone, .int .i64 (L.getD k default).time] 40)).heap.size := by simp
            obtain ⟨cm, hcm⟩ : ∃ cm, comm (prevKey L k).data.toList (L.getD k default).key.data.toList = cm := ⟨_, rfl⟩
            rw [hcm] at HRS HCOM hcle
            clear hal hcm HR HBW
            generalize recS (L.getD k default) time (prevKey L k) = rs at *
            generalize hre : L.getD k default = re at *
            obtain ⟨key, value, gone, rt⟩ := re
            simp only at *
            clear hre
            generalize hwa : wr.alloc (.cells #[.string key, .string value, .bool gone, .int .i64 rt] 40) = w5 at *
            obtain ⟨rb, hrb⟩ : ∃ rb, wr.heap.size = rb := ⟨_, rfl⟩
            have HRB := Lib.hid hrb
            rw [hrb] at hzr
            have hKP := HKP.out
            rw [hrb] at hKP
            clear HKP
            have HKP := Lib.hid hKP
            clear hKP hrb
            go_upto_block 2 with fail
            rw [HRB.out]
            go_cut [8] (fun s8 wx => s8 = .int .i64 (cm : Int) ∧ ∃ q, wx = w5.drewN q)
            case first =>
              have g0 := cell_of_row _ _ 0 _ _ _ HKP.out.blk
              have f6 := cell_of_row _ _ 6 _ _ _ (HKX.out w5 HRa.out.below)
              have hfz := HF.out w5 HRa.out.below
              generalize hpk : prevKey L k = pk at *
              rcases Nat.eq_zero_or_pos k with hk0 | hk0
              · have E : Hid (cm = 0) := by have := HP0.out hk0; rw [this] at hcle; exact Nat.eq_zero_of_le_zero hcle.1
                have dk : decide ((0 : Int) < (k : Int)) = false := decide_eq_false (by omega)
                have dk2 : decide (0 < k) = false := decide_eq_false (by omega)
                go_wp2_with fail
                go_loopw [8] (fun nv ws => nv = .int .i64 0 ∧ ∃ q, ws = w5.drewN q) (fun nv _ => 0)
                case atStart => exact ⟨rfl, 0, rfl⟩
                case round =>
                  obtain ⟨rfl, q, rfl⟩ := hrel
                  go_wp2_with fail
                  go_quiet (fail)
                  go_wp2_with fail
                  go_meet
                  exact ⟨by rw [E.out]; rfl, q + nq, by simp⟩
              · obtain ⟨q0, hq0, hqk, hqe⟩ := HPK.out hk0
                obtain ⟨y1, y2, _, _, _⟩ := recE_zero hqe
                obtain ⟨p', hpe, hpb, s0, s1, s2, s3⟩ := HRW.out.row (k := q0) (by omega)
                injection hpe with hpe
                subst hpe
                rw [← hqk] at s0 y1
                have hsub : (k : Int) - 1 = (q0 : Int) := by omega
                have hqz : (q0 : Int) < (nL : Int) := by omega
                have dk : decide ((0 : Int) < (k : Int)) = true := decide_eq_true (by omega)
                have dk2 : decide (0 < k) = true := decide_eq_true (by omega)
                clear hqk hqe s1 s2 s3
                go_wp2_with fail
                go_loopw [8] (fun nv ws => ∃ j : Nat, j ≤ key.size ∧ j ≤ pk.size ∧ nv = .int .i64 j ∧ Hid (∀ i, i < j → pk.data.toList.getD i 0 = key.data.toList.getD i 0) ∧ ∃ q, ws = w5.drewN q) (fun nv _ => key.size - (intOf nv).toNat)
                case atStart => exact ⟨0, by omega, by omega, rfl, (fun i hi => absurd hi (by omega) : ∀ i, i < 0 → pk.data.toList.getD i 0 = key.data.toList.getD i 0), 0, rfl⟩
                case round =>
                  obtain ⟨j, hj1, hj2, rfl, HEQ, q, rfl⟩ := hrel
                  by_cases h1 : j < key.size
                  · have e1 : decide ((j : Int) < (key.size : Int)) = true := by simp; omega
                    by_cases h2 : j < pk.size
                    · have e2 : decide ((j : Int) < (pk.size : Int)) = true := by simp; omega
                      have HGA := Lib.hid (getD_byte key j h1)
                      have HGB := Lib.hid (getD_byte pk j h2)
                      rcases Bool.eq_false_or_eq_true ((key[j].toNat : Int) == (pk[j].toNat : Int)) with hx | hx
                      · go_wp2_with fail
                        go_quiet (fail)
                        go_wp2_with fail
                        have hab : key[j] = pk[j] := by
                          have : (key[j].toNat : Int) = (pk[j].toNat : Int) := by simpa using hx
                          exact UInt8.toNat_inj.1 (by omega)
                        go_roundw
                        case rel => exact ⟨j + 1, by omega, by omega, by go_num, (fun i hi => by
                          rcases Nat.lt_or_ge i j with g | g
                          · exact HEQ.out i g
                          · rw [show i = j from by omega, ← HGA.out, ← HGB.out]; exact hab.symm : ∀ i, i < j + 1 → pk.data.toList.getD i 0 = key.data.toList.getD i 0), q + nq, by simp⟩
                        case measure => simp [intOf]; omega
                      · have hab : pk[j] ≠ key[j] := by
                          intro h
                          rw [h] at hx
                          simp at hx
                        have E : Hid (cm = j) := HCOM.out j (by rw [HLP.out]; exact hj2) (by rw [HLK.out]; exact hj1) HEQ.out (.inr (.inr (by rw [← HGA.out, ← HGB.out]; exact hab)))
                        clear hab
                        go_wp2_with fail
                        go_quiet (fail)
                        go_wp2_with fail
                        go_meet
                        exact ⟨by rw [E.out], q + nq, by simp⟩
                    · have e2 : decide ((j : Int) < (pk.size : Int)) = false := by simp; omega
                      have E : Hid (cm = j) := HCOM.out j (by rw [HLP.out]; exact hj2) (by rw [HLK.out]; exact hj1) HEQ.out (.inl (by rw [HLP.out]; omega))
                      go_wp2_with fail
                      go_quiet (fail)
                      go_wp2_with fail
                      go_meet
                      exact ⟨by rw [E.out], q + nq, by simp⟩
                  · have e1 : decide ((j : Int) < (key.size : Int)) = false := by simp; omega
                    have E : Hid (cm = j) := HCOM.out j (by rw [HLP.out]; exact hj2) (by rw [HLK.out]; exact hj1) HEQ.out (.inr (.inl (by rw [HLK.out]; omega)))
                    go_wp2_with fail
                    go_quiet (fail)
                    go_wp2_with fail
                    go_meet
                    exact ⟨by rw [E.out], q + nq, by simp⟩
            case rest =>
              obtain ⟨rfl, q, hwq⟩ := hcut
              have HRq := Lib.hid (HRa.out.below_ (below_draws (Below.refl _ w5) q))
              have HKq := Lib.hid (HKP.out.below_ (below_draws (Below.refl _ w5) q))
              rw [← hwq] at HRq HKq
              obtain ⟨b0, hb0⟩ : ∃ b, a6 ++ (rowsS L time k).flatten = b := ⟨_, rfl⟩
              rw [hb0] at HRq
              have HB0 := Lib.hid hb0
              have hxs : (key.extract cm key.size).size ≤ 1024 := by rw [ByteArray.size_extract]; omega
              clear hb0 hwq HRa HKP HRW HCOM HPK HP0 HLK HLP
              have f5_9 := cell_of_row _ _ 5 _ _ _ (HKX.out wc HRq.out.below)
              have g3_9 := cell_of_row _ _ 3 _ _ _ HKq.out.blk
              obtain ⟨ex9, hex9⟩ : ∃ ex, Wn.enc (Wn.zig ((rt : Int) - (time : Int))) = ex := ⟨_, rfl⟩
              have HC9 := Lib.hid (refInt_any ((rt : Int) - (time : Int)) wc (by omega) (by omega))
              rw [hex9] at HC9
              have hel9 : ex9.length ≤ 10 := by rw [← hex9]; exact (Wn.enc_len _).2
              obtain ⟨en9, hen9⟩ : ∃ en, ex9.length = en := ⟨_, rfl⟩
              rw [hen9] at hel9
              have HEX9 := Lib.hid hex9
              have HEN9 := Lib.hid hen9
              clear hex9 hen9
              go_wp2_with fail
              refine HC9.out.mono ?_
              rintro e wa9 ⟨va9, rfl, hoa9, hba9⟩
              obtain ⟨A9, c9', rfl, hc9, hm9, hbs9, _, _⟩ := hoa9.form
              rw [HEN9.out] at hbs9 hc9
              rw [HEN9.out]
              have hw9 := HRq.out.own.below hba9 (Nat.le_refl _)
              have hl9 := HRq.out.len
              have hs9 : w1.heap.size ≤ wa9.heap.size := Nat.le_trans HRq.out.below.size hba9.size
              have HBA9 := Lib.hid hba9
              clear hoa9 hba9 HC9
              go_wp2_with (at_builtin; refine wpList_append_src _ rfl (.tmp 116) (.tmp 122) 25 rfl w1.heap.size 5 i0 _ 1 Try.underlying25 hi0 hz0 hz1 hz2 rfl _ b0.length (bvs b0) rfl hw9 wa9.heap.size A9 en9 c9' (bvs ex9) rfl ?h1 hbs9.lies (bvs_one _) ?h2 ?h3 ?h4 ?_)
              case h1 => rw [bvs_length]; exact HEN9.out
              case h2 => unfold maxLen; omega
              case h3 => omega
              case h4 => omega
              intro vb9 wb9 hob9 hgb9 hat9
              have HP9 := Lib.hid (HKq.out.app HBA9.out hgb9 hat9)
              have HR9 := Lib.hid (HRq.out.app HBA9.out hob9 hgb9 HEN9.out hel9)
              rw [← HEX9.out] at HR9
              clear hat9 hob9 hgb9 hw9 hbs9 HBA9 hs9 hl9 hel9 HEX9 HEN9
              obtain ⟨b1, hb1⟩ : ∃ b, b0 ++ Wn.enc (Wn.zig ((rt : Int) - (time : Int))) = b := ⟨_, rfl⟩
              rw [hb1] at HR9
              have HB1 := Lib.hid hb1
              clear hb1
              have g2_10 := cell_of_row _ _ 2 _ _ _ HP9.out.blk
              obtain ⟨ex10, hex10⟩ : ∃ ex, encF_ gone = ex := ⟨_, rfl⟩
              have HC10 := Lib.hid (refFlag_any gone wb9)
              rw [hex10] at HC10
              have hel10 : ex10.length ≤ 10 := by rw [← hex10]; unfold encF_; split <;> simp
              obtain ⟨en10, hen10⟩ : ∃ en, ex10.length = en := ⟨_, rfl⟩
              rw [hen10] at hel10
              have HEX10 := Lib.hid hex10
              have HEN10 := Lib.hid hen10
              clear hex10 hen10
              go_wp2_with fail
              refine HC10.out.mono ?_
              rintro e wa10 ⟨va10, rfl, hoa10, hba10⟩
              obtain ⟨A10, c10', rfl, hc10, hm10, hbs10, _, _⟩ := hoa10.form
              rw [HEN10.out] at hbs10 hc10
              rw [HEN10.out]
              have hw10 := HR9.out.own.below hba10 (Nat.le_refl _)
              have hl10 := HR9.out.len
              have hs10 : w1.heap.size ≤ wa10.heap.size := Nat.le_trans HR9.out.below.size hba10.size
              have HBA10 := Lib.hid hba10
              clear hoa10 hba10 HC10
              go_wp2_with (at_builtin; refine wpList_append_src _ rfl (.tmp 124) (.tmp 127) 25 rfl w1.heap.size 5 i0 _ 1 Try.underlying25 hi0 hz0 hz1 hz2 rfl _ b1.length (bvs b1) rfl hw10 wa10.heap.size A10 en10 c10' (bvs ex10) rfl ?h1 hbs10.lies (bvs_one _) ?h2 ?h3 ?h4 ?_)
              case h1 => rw [bvs_length]; exact HEN10.out
              case h2 => unfold maxLen; omega
              case h3 => omega
              case h4 => omega
              intro vb10 wb10 hob10 hgb10 hat10
              have HP10 := Lib.hid (HP9.out.app HBA10.out hgb10 hat10)
              have HR10 := Lib.hid (HR9.out.app HBA10.out hob10 hgb10 HEN10.out hel10)
              rw [← HEX10.out] at HR10
              clear hat10 hob10 hgb10 hw10 hbs10 HBA10 hs10 hl10 hel10 HEX10 HEN10
              obtain ⟨b2, hb2⟩ : ∃ b, b1 ++ encF_ gone = b := ⟨_, rfl⟩
              rw [hb2] at HR10
              have HB2 := Lib.hid hb2
              clear hb2
              obtain ⟨ex11, hex11⟩ : ∃ ex, Wn.enc cm = ex := ⟨_, rfl⟩
              have HC11 := Lib.hid (HUI.out cm wb10 (by omega))
              rw [hex11] at HC11
              have hel11 : ex11.length ≤ 10 := by rw [← hex11]; exact (Wn.enc_len _).2
              obtain ⟨en11, hen11⟩ : ∃ en, ex11.length = en := ⟨_, rfl⟩
              rw [hen11] at hel11
              have HEX11 := Lib.hid hex11
              have HEN11 := Lib.hid hen11
              clear hex11 hen11
              go_wp2_with fail
              refine HC11.out.mono ?_
              rintro e wa11 ⟨va11, rfl, hoa11, hba11⟩
              obtain ⟨A11, c11', rfl, hc11, hm11, hbs11, _, _⟩ := hoa11.form
              rw [HEN11.out] at hbs11 hc11
              rw [HEN11.out]
              have hw11 := HR10.out.own.below hba11 (Nat.le_refl _)
              have hl11 := HR10.out.len
              have hs11 : w1.heap.size ≤ wa11.heap.size := Nat.le_trans HR10.out.below.size hba11.size
              have HBA11 := Lib.hid hba11
              clear hoa11 hba11 HC11
              go_wp2_with (at_builtin; refine wpList_append_src _ rfl (.tmp 129) (.tmp 132) 25 rfl w1.heap.size 5 i0 _ 1 Try.underlying25 hi0 hz0 hz1 hz2 rfl _ b2.length (bvs b2) rfl hw11 wa11.heap.size A11 en11 c11' (bvs ex11) rfl ?h1 hbs11.lies (bvs_one _) ?h2 ?h3 ?h4 ?_)
              case h1 => rw [bvs_length]; exact HEN11.out
              case h2 => unfold maxLen; omega
              case h3 => omega
              case h4 => omega
              intro vb11 wb11 hob11 hgb11 hat11
              have HP11 := Lib.hid (HP10.out.app HBA11.out hgb11 hat11)
              have HR11 := Lib.hid (HR10.out.app HBA11.out hob11 hgb11 HEN11.out hel11)
              rw [← HEX11.out] at HR11
              clear hat11 hob11 hgb11 hw11 hbs11 HBA11 hs11 hl11 hel11 HEX11 HEN11
              obtain ⟨b3, hb3⟩ : ∃ b, b2 ++ Wn.enc cm = b := ⟨_, rfl⟩
              rw [hb3] at HR11
              have HB3 := Lib.hid hb3
              clear hb3
              have g0_12 := cell_of_row _ _ 0 _ _ _ HP11.out.blk
              obtain ⟨ex12, hex12⟩ : ∃ ex, encT (key.extract cm key.size) = ex := ⟨_, rfl⟩
              have HC12 := Lib.hid (refText_any (key.extract cm key.size) wb11 (by omega))
              rw [hex12] at HC12
              have hel12 : ex12.length ≤ 1100 := by rw [← hex12]; exact Nat.le_trans (encT_len _) (by omega)
              obtain ⟨en12, hen12⟩ : ∃ en, ex12.length = en := ⟨_, rfl⟩
              rw [hen12] at hel12
              have HEX12 := Lib.hid hex12
              have HEN12 := Lib.hid hen12
              clear hex12 hen12
              go_wp2_with fail
              refine HC12.out.mono ?_
              rintro e wa12 ⟨va12, rfl, hoa12, hba12⟩
              obtain ⟨A12, c12', rfl, hc12, hm12, hbs12, _, _⟩ := hoa12.form
              rw [HEN12.out] at hbs12 hc12
              rw [HEN12.out]
              have hw12 := HR11.out.own.below hba12 (Nat.le_refl _)
              have hl12 := HR11.out.len
              have hs12 : w1.heap.size ≤ wa12.heap.size := Nat.le_trans HR11.out.below.size hba12.size
              have HBA12 := Lib.hid hba12
              clear hoa12 hba12 HC12
              go_wp2_with (at_builtin; refine wpList_append_src _ rfl (.tmp 134) (.tmp 139) 25 rfl w1.heap.size 5 i0 _ 1 Try.underlying25 hi0 hz0 hz1 hz2 rfl _ b3.length (bvs b3) rfl hw12 wa12.heap.size A12 en12 c12' (bvs ex12) rfl ?h1 hbs12.lies (bvs_one _) ?h2 ?h3 ?h4 ?_)
              case h1 => rw [bvs_length]; exact HEN12.out
              case h2 => unfold maxLen; omega
              case h3 => omega
              case h4 => omega
              intro vb12 wb12 hob12 hgb12 hat12
              have HP12 := Lib.hid (HP11.out.app HBA12.out hgb12 hat12)
              have HR12 := Lib.hid (HR11.out.app HBA12.out hob12 hgb12 HEN12.out hel12)
              rw [← HEX12.out] at HR12
              clear hat12 hob12 hgb12 hw12 hbs12 HBA12 hs12 hl12 hel12 HEX12 HEN12
              obtain ⟨b4, hb4⟩ : ∃ b, b3 ++ encT (key.extract cm key.size) = b := ⟨_, rfl⟩
              rw [hb4] at HR12
              have HB4 := Lib.hid hb4
              clear hb4
              have g2z := cell_of_row _ _ 2 _ _ _ HP12.out.blk
              cases gone with
              | true =>
                have HFIN : Hid (a6 ++ (rowsS L time (k + 1)).flatten = b4) := by
                  show _ = _
                  rw [HS.out, List.flatten_append, ← List.append_assoc, HB0.out, HRS.out, ← HB4.out, ← HB3.out, ← HB2.out, ← HB1.out]
                  simp
                go_wp2_with fail
                go_roundw
                case rel => exact ⟨k + 1, by omega, by go_num, HR12.out.more HFIN.out (by omega)⟩
                case measure => simp [intOf]; omega
              | false =>
                have g1_13 := cell_of_row _ _ 1 _ _ _ HP12.out.blk
                obtain ⟨ex13, hex13⟩ : ∃ ex, encT value = ex := ⟨_, rfl⟩
                have HC13 := Lib.hid (refText_any value wb12 (by omega))
                rw [hex13] at HC13
                have hel13 : ex13.length ≤ 1100 := by rw [← hex13]; exact Nat.le_trans (encT_len _) (by omega)
                obtain ⟨en13, hen13⟩ : ∃ en, ex13.length = en := ⟨_, rfl⟩
                rw [hen13] at hel13
                have HEX13 := Lib.hid hex13
                have HEN13 := Lib.hid hen13
                clear hex13 hen13
                go_wp2_with fail
                refine HC13.out.mono ?_
                rintro e wa13 ⟨va13, rfl, hoa13, hba13⟩
                obtain ⟨A13, c13', rfl, hc13, hm13, hbs13, _, _⟩ := hoa13.form
                rw [HEN13.out] at hbs13 hc13
                rw [HEN13.out]
                have hw13 := HR12.out.own.below hba13 (Nat.le_refl _)
                have hl13 := HR12.out.len
                have hs13 : w1.heap.size ≤ wa13.heap.size := Nat.le_trans HR12.out.below.size hba13.size
                have HBA13 := Lib.hid hba13
                clear hoa13 hba13 HC13
                go_wp2_with (at_builtin; refine wpList_append_src _ rfl (.tmp 144) (.tmp 147) 25 rfl w1.heap.size 5 i0 _ 1 Try.underlying25 hi0 hz0 hz1 hz2 rfl _ b4.length (bvs b4) rfl hw13 wa13.heap.size A13 en13 c13' (bvs ex13) rfl ?h1 hbs13.lies (bvs_one _) ?h2 ?h3 ?h4 ?_)
                case h1 => rw [bvs_length]; exact HEN13.out
                case h2 => unfold maxLen; omega
                case h3 => omega
                case h4 => omega
                intro vb13 wb13 hob13 hgb13 hat13
                have HP13 := Lib.hid (HP12.out.app HBA13.out hgb13 hat13)
                have HR13 := Lib.hid (HR12.out.app HBA13.out hob13 hgb13 HEN13.out hel13)
                rw [← HEX13.out] at HR13
                clear hat13 hob13 hgb13 hw13 hbs13 HBA13 hs13 hl13 hel13 HEX13 HEN13
                have HFIN : Hid (a6 ++ (rowsS L time (k + 1)).flatten = b4 ++ encT value) := by
                  show _ = _
                  rw [HS.out, List.flatten_append, ← List.append_assoc, HB0.out, HRS.out, ← HB4.out, ← HB3.out, ← HB2.out, ← HB1.out]
                  simp
                go_wp2_with fail
                go_roundw
                case rel => exact ⟨k + 1, by omega, by go_num, HR13.out.more HFIN.out (by omega)⟩
                case measure => simp [intOf]; omega
          · have d8 : decide ((k : Int) < (nL : Int)) = false := by rw [decide_eq_false_iff_not]; omega
            have d9 : decide (k < nL) = false := by rw [decide_eq_false_iff_not]; omega
            obtain rfl : k = nL := by omega
            clear hlt
            go_wp2_with fail
            go_ret2
            have hfin := HR.out.own.base_le HW.out.size
            rw [← HA6.out] at hfin
            refine ⟨_, rfl, ?_, HW.out.trans (HR.out.below.mono HW.out.size)⟩
            show Own wr w.heap.size u5 _
            have e := HNL.out
            subst e
            rw [List.append_assoc] at hfin
            exact hfin

theorem rencode_yes (b : Bat) (A : Option Addr) (c B : Nat) (w : World) (hL : Rcs w B A b.L.length b.L) (hB : B ≤ w.heap.size) (hF : Fine b) :
    Calls Try.prog 4 #[.agg (b.cells A c)] w fun e w' => ∃ v, e = .returned (.tuple #[v, .int .i64 0]) ∧ Own w' w.heap.size v (encB b) ∧ Below w.heap.size w w' := by
  have hv := (fine_iff b).2 hF
  have a1 := hF.b1; have a2 := hF.b2; have a3 := hF.p1; have a4 := hF.p2; have a5 := hF.e1; have a6 := hF.e2; have a7 := hF.s1; have a8 := hF.s2; have a9 := hF.k1; have a10 := hF.k2; have a11 := hF.t1; have a12 := hF.t2
  have hlen := hF.len
  have hrec := hF.recs
  clear hF
  unfold encB headOf
  generalize hmk : markB b = mk
  obtain ⟨base, pid, epoch, seq, kind, time, L⟩ := b
  simp only at *
  obtain ⟨base, rfl⟩ := Int.eq_ofNat_of_zero_le a1
  obtain ⟨pid, rfl⟩ := Int.eq_ofNat_of_zero_le a3
  obtain ⟨epoch, rfl⟩ := Int.eq_ofNat_of_zero_le a5
  obtain ⟨seq, rfl⟩ := Int.eq_ofNat_of_zero_le a7
  obtain ⟨kind, rfl⟩ := Int.eq_ofNat_of_zero_le a9
  obtain ⟨time, rfl⟩ := Int.eq_ofNat_of_zero_le a11
  simp only [Int.toNat_natCast]
  exact rencode_yes' mk base pid epoch seq kind time L A c B w hL hB (by omega) (by omega) (by omega) (by omega) (by omega) (by omega) hmk hv hlen hrec
/-- the reference's Encode, of any batch -/
theorem rencode_any (b : Bat) (A : Option Addr) (c B : Nat) (w : World) (hL : Rcs w B A b.L.length b.L) (hB : B ≤ w.heap.size) (hl : b.L.length ≤ maxLen) :
    Calls Try.prog 4 #[.agg (b.cells A c)] w fun e w' => ∃ A' c', e = .returned (.tuple #[.slice A' (if validE b = 0 then encB b else []).length c', .int .i64 (validE b)]) ∧ (if validE b = 0 then encB b else []).length ≤ c' ∧ c' ≤ maxLen ∧ Bs w' w'.heap.size A' (if validE b = 0 then encB b else []).length (if validE b = 0 then encB b else []) ∧ Below w.heap.size w w' := by
  by_cases hv : validE b = 0
  · rw [if_pos hv]
    refine (rencode_yes b A c B w hL hB ((fine_iff b).1 hv)).mono ?_
    rintro e w' ⟨v, rfl, ho, hb⟩
    obtain ⟨A', c', rfl, h1, h2, h3, _, _⟩ := ho.form
    exact ⟨A', c', by rw [hv], h1, h2, h3, hb⟩
  · rw [if_neg hv]
    refine (rencode_no b A c B w hL hB hl hv).mono ?_
    rintro e w' ⟨rfl, hb⟩
    exact ⟨none, 0, rfl, by simp, by simp [maxLen], Bs.nil_, hb⟩
/-- Encode, of any batch -/
theorem encode_all (b : Bat) (A : Option Addr) (c B : Nat) (w : World) (hL : Rcs w B A b.L.length b.L) (hB : B ≤ w.heap.size) (hl : b.L.length ≤ maxLen) :
    Calls Try.prog 9 #[.agg (b.cells A c)] w fun e w' => ∃ A' c', e = .returned (.tuple #[.slice A' (if validE b = 0 then encB b else []).length c', .int .i64 (validE b)]) ∧ (if validE b = 0 then encB b else []).length ≤ c' ∧ c' ≤ maxLen ∧ Bs w' w'.heap.size A' (if validE b = 0 then encB b else []).length (if validE b = 0 then encB b else []) ∧ Below w.heap.size w w' := by
  by_cases hv : validE b = 0
  · rw [if_pos hv]
    refine (encode_yes b A c B w hL hB ((fine_iff b).1 hv)).mono ?_
    rintro e w' ⟨v, rfl, ho, hb⟩
    obtain ⟨A', c', rfl, h1, h2, h3, _, _⟩ := ho.form
    exact ⟨A', c', by rw [hv], h1, h2, h3, hb⟩
  · rw [if_neg hv]
    refine (encode_no b A c B w hL hB hl hv).mono ?_
    rintro e w' ⟨rfl, hb⟩
    exact ⟨none, 0, rfl, by simp, by simp [maxLen], Bs.nil_, hb⟩
end Go.Proofs.Ytniopekkfnkipaa
