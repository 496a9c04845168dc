/-
  Law 4's play; DiskPlays.
-/
import Derived.Test.YtebkgcnldbkgeaaDpT
import Derived.Test.YtebkgcnldbkgeaaDkR
namespace Go.Proofs.Ytebkgcnldbkgeaa
open Go.RowKit Go.Lib Go.Sort Go.Maps
set_option linter.unusedVariables false
set_option linter.unusedSimpArgs false

/-- a slice of calls that came in -/
structure Ops4 (w : World) (B : Nat) (A : Option Addr) (n : Nat) (X : List O4) : Prop where
  th : Ths O4.cells w B A n X
  inn : ∀ k, k < n → (X.getD k default).In w
theorem Ops4.below {w w' : World} {A : Option Addr} {n : Nat} {X : List O4} (h : Ops4 w w.heap.size A n X) (hb : Below w.heap.size w w') : Ops4 w' w'.heap.size A n X :=
  ⟨(h.th.below hb).wider hb.size, fun k hk => (h.inn k hk).below hb⟩
theorem Ops4.row {w : World} {B : Nat} {A : Option Addr} {n : Nat} {X : List O4} (h : Ops4 w B A n X) {k : Nat} (hk : k < n) : ∃ p, A = some p ∧ w.cell? (p.add (k * 6)) = some (.int .i64 (X.getD k default).kd) ∧
    w.cell? ⟨(p.add (k * 6)).block, (p.add (k * 6)).off + 1, none⟩ = some (.string (X.getD k default).a) ∧
    w.cell? ⟨(p.add (k * 6)).block, (p.add (k * 6)).off + 2, none⟩ = some (.string (X.getD k default).b) ∧
    w.cell? ⟨(p.add (k * 6)).block, (p.add (k * 6)).off + 3, none⟩ = some (.string (X.getD k default).s) ∧
    w.cell? ⟨(p.add (k * 6)).block, (p.add (k * 6)).off + 4, none⟩ = some (.int .i64 (X.getD k default).n) ∧
    w.cell? ⟨(p.add (k * 6)).block, (p.add (k * 6)).off + 5, none⟩ = some (.slice (X.getD k default).pA (X.getD k default).pn (X.getD k default).pc) := by
  obtain ⟨p, e, _, h0, hj⟩ := Ths.at_ (m := 6) (fun _ => rfl) (by omega) h.th hk
  exact ⟨p, e, h0 _ rfl, hj 1 _ (by omega) (by omega) rfl, hj 2 _ (by omega) (by omega) rfl, hj 3 _ (by omega) (by omega) rfl, hj 4 _ (by omega) (by omega) rfl, hj 5 _ (by omega) (by omega) rfl⟩
theorem tmod_le (a : Int) (m : Nat) (hm : 0 < m) : -(m : Int) < a.tmod m ∧ a.tmod m < m := by
  have h1 := Int.natAbs_tmod a m
  have h2 : (m : Int).natAbs = m := rfl
  rw [h2] at h1
  have h3 := Nat.mod_lt a.natAbs hm
  omega
theorem TD.new_ {w w1 w2 : World} {d r : Nat} {k : Int} (hd : Dk w1 w.heap.size d (newD k)) (hb1 : Below w.heap.size w w1) (hr : Rk w2 w1.heap.size r (.slice none 0 0) (newP k)) (hb2 : Below w1.heap.size w1 w2) : TD w2 w.heap.size d r (newD k) (.slice none 0 0) (newP k) :=
  ⟨hd.below hb2 (Nat.le_refl _), rfl, hr.lower hb1.size, fun j hj h2 => by have := hd.lt j hj; have := hr.le j h2; omega⟩
set_option maxRecDepth 100000 in
set_option maxHeartbeats 16000000 in
theorem play_any (room : Int) (A : Option Addr) (n c most : Nat) (X : List O4) (w : World) (hX : Ops4 w w.heap.size A n X) (hn : n ≤ maxLen) (hm : most ≤ 1000) :
    Calls Try.prog 7 #[.int .i64 room, .slice A n c, .int .i64 (most : Int)] w fun e w' => ∃ d r D v p, e = .returned (.tuple #[.pointer (some ⟨d, 0, none⟩), .pointer (some ⟨r, 0, none⟩), .bool true]) ∧ TD w' w.heap.size d r D v p ∧ Below w.heap.size w w' := by
  obtain ⟨Q, hQ⟩ : ∃ Q : Ending → World → Prop, (fun e w' => ∃ d r D v p, e = .returned (.tuple #[.pointer (some ⟨d, 0, none⟩), .pointer (some ⟨r, 0, none⟩), .bool true]) ∧ TD w' w.heap.size d r D v p ∧ Below w.heap.size w w') = Q := ⟨_, rfl⟩
  have HQ : Hid (∀ w' d r D v p, TD w' w.heap.size d r D v p → Below w.heap.size w w' → Q (.returned (.tuple #[.pointer (some ⟨d, 0, none⟩), .pointer (some ⟨r, 0, none⟩), .bool true])) w') := fun w' d r D v p h1 h2 => by rw [← hQ]; exact ⟨d, r, D, v, p, rfl, h1, h2⟩
  rw [hQ]
  clear hQ
  have HXX := Lib.hid hX
  have HNW : Hid (∀ k : Int, 0 ≤ k → k ≤ 4999 → Calls Try.prog 15 #[.int .i64 k] w fun e w' => ∃ d, e = .returned (.tuple #[.pointer (some ⟨d, 0, none⟩), .int .i64 0]) ∧ Dk w' w.heap.size d (newD k) ∧ Below w.heap.size w w') := fun k h1 h2 => (new_any4 k w).mono fun e w' ⟨h3, h4⟩ => by
    rw [if_neg (by omega)] at h3
    obtain ⟨d, he, _, hd⟩ := h3
    exact ⟨d, he, hd, h4⟩
  unfold maxLen at hn
  obtain ⟨t, ht⟩ : ∃ t, Int.tmod room 5000 = t := ⟨_, rfl⟩
  have htb := tmod_le room 5000 (by decide)
  have ht1 : -5000 < t ∧ t < 5000 := by rw [← ht]; exact htb
  clear htb hX
  go_enter Try.func7, Try.ntmps7
  go_upto_if 18 with fail
  go_cut [0, 19, 20] (fun s0 s19 s20 wx => ∃ k : Int, s0 = .int .i64 k ∧ wx = w ∧ 0 ≤ k ∧ k ≤ 4999)
  case first =>
    by_cases hneg : t < 0
    · have d0 : decide (t < 0) = true := decide_eq_true hneg
      have ew : IntKind.i64.wrap (-t) = -t := by rw [IntKind.wrap_i64]; omega
      go_wp2_with fail
      go_meet
      exact ⟨-t, rfl, rfl, by omega, by omega⟩
    · have d0 : decide (t < 0) = false := decide_eq_false hneg
      go_wp2_with fail
      go_meet
      exact ⟨t, rfl, rfl, by omega, by omega⟩
  case rest =>
    obtain ⟨k, rfl, hwe, hk0, hk1⟩ := hcut
    have hwe' := hwe.symm
    subst hwe'
    have HN := Lib.hid (HNW.out k hk0 hk1)
    clear ht ht1 HNW
    go_wp2_with (first
      | (go_at_call 24; (with_reducible refine HSM.out.mono ?_); rintro e w3 ⟨rfl, hb3⟩)
      | (go_at_call 16; (with_reducible refine (rnew_any k _).mono ?_); rintro e w2 ⟨r, rfl, hr2, hb2⟩; have HTD := Lib.hid (TD.new_ hd1 hb1 hr2 hb2); have HB2 := Lib.hid (hb1.trans (hb2.mono hb1.size)); have HSM : Hid (Calls Try.prog 24 #[.pointer (some ⟨d, 0, none⟩), .pointer (some ⟨r, 0, none⟩)] w2 fun e w' => e = .returned (.bool true) ∧ Below w2.heap.size w2 w') := same_any w.heap.size d w.heap.size r _ _ w2 HTD.out.dk (by rw [HTD.out.pe]; exact HTD.out.rk); clear hr2 hb2 hd1 hb1)
      | (go_at_call 15; (with_reducible refine HN.out.mono ?_); rintro e w1 ⟨d, rfl, hd1, hb1⟩))
    have HT3 := Lib.hid (HTD.out.below hb3 (Nat.le_refl _))
    have HB3 := Lib.hid (HB2.out.trans (hb3.mono HB2.out.size))
    clear hb3 HTD HB2 HSM HN
    generalize newP k = p0 at *
    generalize newD k = D0 at *
    generalize (Value.slice none 0 0) = v0 at HT3
    go_loopw [9, 11, 12, 37] (fun s9 s11 s12 iv wr => ∃ (i d r : Nat) (D : Dsk) (v : Value) (p : PD), i ≤ n ∧ s9 = .pointer (some ⟨d, 0, none⟩) ∧ s11 = .pointer (some ⟨r, 0, none⟩) ∧ s12 = .bool true ∧ iv = .int .i64 i ∧ Hid (TD wr w.heap.size d r D v p) ∧ Hid (Below w.heap.size w wr)) (fun _ _ _ iv _ => n - (RowKit.intOf iv).toNat)
    case atStart => exact ⟨0, d, r, D0, v0, p0, by omega, rfl, rfl, rfl, rfl, HT3.out, HB3.out⟩
    case round =>
      obtain ⟨i, d, r, D, v, p, hi, rfl, rfl, rfl, rfl, HT, HB⟩ := hrel
      by_cases hit : i < n
      · have hiz : (i : Int) < (n : Int) := by omega
        have hXW := HXX.out.below HB.out
        obtain ⟨q, rfl, s0, s1, s2, s3, s4, s5⟩ := hXW.row hit
        have hin := hXW.inn i hit
        generalize X.getD i default = o at *
        have hal := (Below.refl wr.heap.size wr).alloc (Nat.le_refl _) (.cells #[.int .i64 o.kd, .string o.a, .string o.b, .string o.s, .int .i64 o.n, .slice o.pA o.pn o.pc] 44)
        have hN0 := heap_alloc_new wr (.cells #[.int .i64 o.kd, .string o.a, .string o.b, .string o.s, .int .i64 o.n, .slice o.pA o.pn o.pc] 44)
        obtain ⟨w6, hw6⟩ : ∃ w6, wr.alloc (.cells #[.int .i64 o.kd, .string o.a, .string o.b, .string o.s, .int .i64 o.n, .slice o.pA o.pn o.pc] 44) = w6 := ⟨_, rfl⟩
        rw [hw6] at hal hN0
        have HW6 := Lib.hid hw6
        have HT6 := Lib.hid (HT.out.below hal (Nat.le_refl _))
        have HB6 := Lib.hid (HB.out.trans (hal.mono HB.out.size))
        have HIN := Lib.hid (hin.below hal)
        have HN0 := Lib.hid hN0
        clear hw6 hal hN0 hin hXW
        go_upto_region 10 with fail
        rw [HW6.out]
        clear s0 s1 s2 s3 s4 s5
        by_cases hmi : most ≤ i
        · have d1 : decide ((most : Int) ≤ (i : Int)) = true := by rw [decide_eq_true_iff]; omega
          have d1' : decide (most ≤ i) = true := decide_eq_true hmi
          have HE := Lib.hid (HQ.out w6 d r D v p HT6.out HB6.out)
          clear hmi
          go_wp2_with fail
          go_ret3
          exact HE.out
        · have d1 : decide ((most : Int) ≤ (i : Int)) = false := by rw [decide_eq_false_iff_not]; omega
          have d1' : decide (most ≤ i) = false := decide_eq_false hmi
          obtain ⟨b0, b1, b2, b3, b4, b5⟩ := six_cells HN0.out
          have HSM := Lib.hid (small4_any o w6 HIN.out)
          have HSTEP : Hid (∀ V, Below w6.heap.size w6 V → Calls Try.prog 18 #[.pointer (some ⟨d, 0, none⟩), .pointer (some ⟨r, 0, none⟩), .agg #[.int .i64 (sm4 o).kd, .string (sm4 o).a, .string (sm4 o).b, .string (sm4 o).s, .int .i64 (sm4 o).n, .slice (sm4 o).pA (sm4 o).pn (sm4 o).pc]] V fun e w' => ∃ d' r' D' v' p', e = .returned (.tuple #[.pointer (some ⟨d', 0, none⟩), .pointer (some ⟨r', 0, none⟩), .bool true]) ∧ TD w' w.heap.size d' r' D' v' p' ∧ Below w.heap.size w w') := fun V hV => by
            have hb6 := HB6.out.trans (hV.mono HB6.out.size)
            have htv := HT6.out.below hV (Nat.le_refl _)
            refine (step_any w.heap.size d r D v p (sm4 o) V htv hb6.size (HIN.out.ok.below hV)).mono fun e w' hh => ?_
            obtain ⟨d', r', D', v', he, ts, _⟩ := hh
            exact ⟨d', r', D', v', _, he, ts.td, hb6.trans (ts.below htv hb6.size)⟩
          have HSA : Hid (∀ V d' r' D' v' p', TD V w.heap.size d' r' D' v' p' → Calls Try.prog 24 #[.pointer (some ⟨d', 0, none⟩), .pointer (some ⟨r', 0, none⟩)] V fun e w' => e = .returned (.bool true) ∧ Below V.heap.size V w') := fun V d' r' D' v' p' hT => same_any w.heap.size d' w.heap.size r' D' v' V hT.dk (by rw [hT.pe]; exact hT.rk)
          generalize sm4 o = o2 at *
          clear hmi
          go_wp2_with (first
            | (go_at_call 24; (with_reducible refine (HSA.out _ _ _ _ _ _ ht8).mono ?_); rintro e w9 ⟨rfl, hb9⟩)
            | (go_at_call 18; (with_reducible refine (HSTEP.out _ hb7).mono ?_); rintro e w8 ⟨d', r', D', v', p', rfl, ht8, hb8⟩)
            | (go_at_call 19; (with_reducible refine HSM.out.mono ?_); rintro e w7 ⟨rfl, hb7⟩))
          have HT9 := Lib.hid (ht8.below hb9 (Nat.le_refl _))
          have HB9 := Lib.hid (hb8.trans (hb9.mono hb8.size))
          clear ht8 hb9 hb8 hb7
          go_roundw
          case rel => exact ⟨i + 1, d', r', D', v', p', by omega, rfl, rfl, rfl, by go_num, HT9.out, HB9.out⟩
          case measure => simp [RowKit.intOf]; omega
      · have d8 : decide ((i : Int) < (n : Int)) = false := by rw [decide_eq_false_iff_not]; omega
        have HE := Lib.hid (HQ.out wr d r D v p HT.out HB.out)
        go_wp2_with fail
        go_ret3
        exact HE.out
set_option maxHeartbeats 4000000 in
theorem diskPlays_any (room : Int) (A : Option Addr) (n c : Nat) (X : List O4) (w : World) (hX : Ops4 w w.heap.size A n X) (hn : n ≤ maxLen) :
    Calls Try.prog 3 #[.int .i64 room, .slice A n c] w fun e w' => e = .returned (.bool true) ∧ Below w.heap.size w w' := by
  have HP : Hid (Calls Try.prog 7 #[.int .i64 room, .slice A n c, .int .i64 60] w fun e w' => ∃ d r, e = .returned (.tuple #[.pointer (some ⟨d, 0, none⟩), .pointer (some ⟨r, 0, none⟩), .bool true]) ∧ Below w.heap.size w w') := (play_any room A n c 60 X w hX hn (by decide)).mono fun e w' ⟨d, r, D, v, p, he, _, hb⟩ => ⟨d, r, he, hb⟩
  clear hX hn
  go_enter Try.func3, Try.ntmps3
  go_wp2_with (first
    | (go_at_call 7; (with_reducible refine HP.out.mono ?_); rintro e w1 ⟨d, r, rfl, hb1⟩)
    | (go_at_call 8; (with_reducible refine (awake4_any _).mono ?_); rintro e w2 ⟨rfl, hb2⟩))
  go_ret
  exact ⟨rfl, hb1.trans (hb2.mono hb1.size)⟩
end Go.Proofs.Ytebkgcnldbkgeaa
