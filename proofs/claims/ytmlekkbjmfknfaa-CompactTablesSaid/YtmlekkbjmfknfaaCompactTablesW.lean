/-
  The walk through CompactTables.
-/
import Derived.Test.YtmlekkbjmfknfaaCtT
import Derived.Test.YtmlekkbjmfknfaaCpL
namespace Go.Proofs.Ytmlekkbjmfknfaa
open Go.RowKit Go.Lib Go.Sort
set_option linter.unusedVariables false
set_option linter.unusedSimpArgs false

set_option maxRecDepth 100000 in
set_option maxHeartbeats 8000000 in
theorem compactTables_any (A : Option Addr) (n c : Nat) (X : List CallC) (cut : Int) (w : World) (hX : Cls w w.heap.size A n X) (hn : n ≤ maxLen) :
    Calls Try.prog 3 #[.slice A n c, .int .i64 cut] w fun e w' => e = .returned (.bool true) ∧ Below w.heap.size w w' := by
  unfold maxLen at hn
  have HXS := Lib.hid hX
  have HNW : Hid (∀ W : World, Calls Try.prog 8 #[] W fun e w' => e = .returned (.pointer (some ⟨W.heap.size, 0, none⟩)) ∧ Hid (w' = W.alloc (.cells #[.int .i64 0, .slice none 0 0] 70))) := fun W => cnew_any W
  have HAW : Hid (∀ W, Calls Try.prog 15 #[] W fun e w' => e = .returned (.bool true) ∧ Below W.heap.size W w') := awake9_any
  have HSA : Hid (∀ N g h k S n1 v u L R W, P1 w W N g h k S n1 v u L R → k ≤ 31 → Calls Try.prog 9 #[.pointer (some ⟨g, 0, none⟩), .pointer (some ⟨h, 0, none⟩)] W fun e w' => e = .returned (.bool true) ∧ Below W.heap.size W w') := fun N g h k S n1 v u L R W h1 hk => same_any S g h n1 v u L R W h1.tp (by have := h1.len; omega)
  have HST : Hid (∀ N g h k S n1 v u L R W kind (A : Option Addr) m c M fr key to_ most, P1 w W N g h k S n1 v u L R → k ≤ 31 → CallC.ok W W.heap.size ⟨kind, A, m, c, M, fr, key, to_, most⟩ → Calls Try.prog 13 #[.pointer (some ⟨g, 0, none⟩), .pointer (some ⟨h, 0, none⟩), .agg #[.int .i64 kind, .slice A m c, .bool fr, .string key, .string to_, .int .i64 most]] W fun e w' => StepP S g h L W e w') := fun N g h k S n1 v u L R W kind A m c M fr key to_ most h1 hk hx => step_any S g h n1 v u L R kind A m c M fr key to_ most W h1.tp (by have := h1.len; omega) hx.1 hx.2.1 hx.2.2
  clear hX
  go_enter Try.func3, Try.ntmps3
  go_upto_region 2 with (go_at_call 8; (with_reducible refine (HNW.out w).mono ?_); rintro e wa ⟨rfl, ha⟩)
  have za : wa.heap.size = w.heap.size + 1 := by rw [ha.out]; simp
  have Ba : Below w.heap.size w wa := by rw [ha.out]; exact (Below.refl _ _).alloc (Nat.le_refl _) _
  have Ta : Tbl wa wa.heap.size w.heap.size 0 (.slice none 0 0) [] := by rw [ha.out]; exact Tbl.made w _
  have hBb := (Below.refl wa.heap.size wa).alloc (Nat.le_refl _) (.cells #[.int .i64 0, .slice none 0 0] 28)
  have hNb := heap_alloc_new wa (.cells #[.int .i64 0, .slice none 0 0] 28)
  obtain ⟨wb, hwb⟩ : ∃ wb, wa.alloc (.cells #[.int .i64 0, .slice none 0 0] 28) = wb := ⟨_, rfl⟩
  rw [hwb] at hBb hNb ⊢
  have hlb := (Array.getElem?_eq_some_iff.1 hNb).1
  have HPb : Hid (P1 w wb (fun _ => False) w.heap.size wa.heap.size 0 (fun j => j = w.heap.size ∨ j = wa.heap.size) 0 (.slice none 0 0) (.slice none 0 0) [] []) := by
    refine ⟨⟨(Ta.below hBb).base0, ⟨hNb, World.ownsRow_nil _ _ _ _, by simp [Value.ownBlock], by intro r hr; cases hr⟩, ⟨fun x => Iff.rfl, List.Pairwise.nil⟩, by omega, by simp [Value.ownBlock], by simp [Value.ownBlock], by simp [Value.ownBlock], .inl rfl, .inr rfl, by simp [Value.ownBlock], by simp [Value.ownBlock], ?_, by omega, by omega⟩, by simp, ?_⟩
    · rintro k (rfl | rfl) <;> omega
    · rintro k (rfl | rfl) <;> exact ⟨by omega, fun e => e⟩
  have HBb := Lib.hid (Ba.trans (hBb.mono (by omega)))
  clear ha Ba Ta hBb hNb hwb za
  generalize wa.heap.size = h at *
  go_upto_region 5 with (go_at_call 9; (with_reducible refine (HSA.out _ _ _ _ _ _ _ _ _ _ wb HPb.out (by omega)).mono ?_); rintro e w3 ⟨rfl, hb3⟩)
  have HT3 : Hid (Two9 w w3 (fun _ => False) w.heap.size h 0 (.pointer none) (.pointer none)) := .inl ⟨rfl, rfl, _, _, _, _, _, _, HPb.out.below hb3, HBb.out.trans (hb3.mono HBb.out.size)⟩
  clear hb3 HPb HBb hlb
  go_wp2_with fail
  go_loopw [7, 8, 9, 20] (fun sc ss sok iv wr => ∃ k : Nat, k ≤ n ∧ k ≤ 30 ∧ sok = .bool true ∧ iv = .int .i64 k ∧ Hid (Two9 w wr (fun _ => False) w.heap.size h k sc ss)) (fun _ _ _ iv _ => n - (RowKit.intOf iv).toNat)
  case atStart => exact ⟨0, by omega, by omega, rfl, rfl, HT3.out⟩
  case round =>
    obtain ⟨k, hk, hk30, rfl, rfl, HT⟩ := hrel
    clear HT3
    by_cases hlt : k < n
    · have HBw : Hid (Below w.heap.size w wr) := by obtain ⟨_, _, _, _, _, _, _, hb⟩ := HT.out.uno; exact hb
      obtain ⟨p, rfl, hp, r0, r1, r2, r3, r4, r5, _⟩ := (HXS.out.below HBw.out).row k hlt
      have hxo := HXS.out.ok_at hlt
      have hkz : (k : Int) < (n : Int) := by omega
      generalize X.getD k default = x at *
      obtain ⟨kind, XA, xm, xc, XM, fr, key, to_, most⟩ := x
      simp only at r0 r1 r2 r3 r4 r5
      have HXO := Lib.hid hxo
      clear hxo
      have hB5 := (Below.refl wr.heap.size wr).alloc (Nat.le_refl _) (.cells #[.int .i64 kind, .slice XA xm xc, .bool fr, .string key, .string to_, .int .i64 most] 32)
      have hN5 := heap_alloc_new wr (.cells #[.int .i64 kind, .slice XA xm xc, .bool fr, .string key, .string to_, .int .i64 most] 32)
      obtain ⟨w5, hw5⟩ : ∃ w5, wr.alloc (.cells #[.int .i64 kind, .slice XA xm xc, .bool fr, .string key, .string to_, .int .i64 most] 32) = w5 := ⟨_, rfl⟩
      rw [hw5] at hB5 hN5
      have HW5 := Lib.hid hw5
      have hl5 := (Array.getElem?_eq_some_iff.1 hN5).1
      have HT5 := Lib.hid (HT.out.new hB5)
      have HN5 := Lib.hid hN5
      have HL5 : Hid (wr.heap.size < w5.heap.size) := hl5
      clear hw5 hB5 hN5 HT
      by_cases h30 : k < 30
      · have d30 : decide ((30 : Int) ≤ (k : Int)) = false := by rw [decide_eq_false_iff_not]; omega
        have d31 : decide (30 ≤ k) = false := by rw [decide_eq_false_iff_not]; omega
        obtain ⟨cb, hcb⟩ : ∃ cb, ((k : Int) == cut) = cb := ⟨_, rfl⟩
        go_upto_if 33 with fail
        rw [HW5.out]
        clear r0 r1 r2 r3 r4 r5 hcb d30 d31
        go_cut [7, 8, 9] (fun s7 s8 s9 wx => s9 = .bool true ∧ Hid (Two9 w wx (fun j => j = wr.heap.size) w.heap.size h k s7 s8) ∧ Hid (wx.heap[wr.heap.size]? = some (.cells #[.int .i64 kind, .slice XA xm xc, .bool fr, .string key, .string to_, .int .i64 most] 32 (0, 0))))
        case first =>
          cases cb with
          | false =>
            go_wp2_with fail
            go_meet
            exact ⟨rfl, HT5.out, HN5.out⟩
          | true =>
            obtain ⟨S, n1, v, u, L, R, hp1, hb1⟩ := HT5.out.uno
            have HP1 := Lib.hid hp1
            have HB1 := Lib.hid hb1
            have hLk := hp1.len
            have hRk := hp1.tp.len
            have HCP := Lib.hid (copy9_any 0 w.heap.size n1 v L w5 hp1.tp.t (by omega))
            have HRC : Hid (∀ W, Below w5.heap.size w5 W → Calls Try.prog 11 #[.pointer (some ⟨h, 0, none⟩)] W fun e w' => ∃ g' v', e = .returned (.pointer (some ⟨g', 0, none⟩)) ∧ Rt w' W.heap.size g' n1 v' R ∧ W.heap.size ≤ g' ∧ Below W.heap.size W w') := fun W hW => rcopy9_any 0 h n1 u R W (hp1.tp.r.below hW) (by omega)
            clear hp1 hb1 hLk hRk
            go_upto_region 12 with (first
              | (go_at_call 10; (with_reducible refine HCP.out.mono ?_); rintro e w6 ⟨g2, v2, rfl, ht6, hg6, hb6⟩)
              | (go_at_call 11; (with_reducible refine (HRC.out w6 hb6).mono ?_); rintro e w7 ⟨h2, u2, rfl, hr7, hh7, hb7⟩))
            obtain ⟨S2, hS2⟩ : ∃ S2 : Nat → Prop, S2 = fun j => j = g2 ∨ j = h2 ∨ v2.ownBlock = some j ∨ u2.ownBlock = some j := ⟨_, rfl⟩
            have HQ2 : Hid (P1 w w7 (fun j => j = wr.heap.size) g2 h2 k S2 n1 v2 u2 L R) := by
              rw [hS2]
              refine ⟨HP1.out.tp.copied ht6 hg6 hr7 hh7 hb7, HP1.out.len, ?_⟩
              have z1 := HB1.out.size
              have z2 := hb6.size
              have z3 := HL5.out
              rintro j (rfl | rfl | e | e)
              · exact ⟨by omega, by omega⟩
              · exact ⟨by omega, by omega⟩
              · have := (World.ownsRow.lt ht6.row _ e).1; exact ⟨by omega, by omega⟩
              · have := (World.ownsRow.lt hr7.row _ e).1; exact ⟨by omega, by omega⟩
            have HB57 : Hid (Below w5.heap.size w5 w7) := hb6.trans (hb7.mono hb6.size)
            have HD : Hid (∀ j, S j → ¬ S2 j) := by
              rw [hS2]
              intro j hj
              have := HP1.out.tp.lt j hj
              have z2 := hb6.size
              rintro (rfl | rfl | e | e)
              · omega
              · omega
              · have := (World.ownsRow.lt ht6.row _ e).1; omega
              · have := (World.ownsRow.lt hr7.row _ e).1; omega
            have HP7 := Lib.hid (HP1.out.below HB57.out)
            have HN7 := Lib.hid ((HB57.out.block wr.heap.size HL5.out).trans HN5.out)
            have HB7 := Lib.hid (HB1.out.trans (HB57.out.mono HB1.out.size))
            have HZ7 : Hid (wr.heap.size < w7.heap.size) := Nat.lt_of_lt_of_le HL5.out HB57.out.size
            clear hS2 ht6 hg6 hr7 hh7 hb6 hb7 HCP HRC HP1 HB1 HB57
            have HSY : Hid (∀ a b a' b' na nb va vb W, Tbl W a b na va L → Tbl W a' b' nb vb L → Calls Try.prog 12 #[.pointer (some ⟨b, 0, none⟩), .pointer (some ⟨b', 0, none⟩)] W fun e w' => e = .returned (.bool true) ∧ Below W.heap.size W w') := fun a b a' b' na nb va vb W h1 h2 => same9_yes a a' b b' na nb va vb L W h1 h2 (by have := HP7.out.len; omega)
            go_wp2_with (first
              | (go_at_call 9; (with_reducible refine (HSA.out _ _ _ _ _ _ _ _ _ _ w7 HQ2.out (by omega)).mono ?_); rintro e w8 ⟨rfl, hb8⟩)
              | (go_at_call 12; (with_reducible refine (HSY.out _ _ _ _ _ _ _ _ w8 (HQ2.out.below hb8).tp.t (HP7.out.below hb8).tp.t).mono ?_); rintro e w9 ⟨rfl, hb9⟩)
              | (go_at_call 12; (with_reducible refine (HSY.out _ _ _ _ _ _ _ _ w9 ((HP7.out.below hb8).below hb9).tp.t ((HQ2.out.below hb8).below hb9).tp.t).mono ?_); rintro e w10 ⟨rfl, hb10⟩))
            have hb810 := (hb8.trans (hb9.mono hb8.size)).trans (hb10.mono (Nat.le_trans hb8.size hb9.size))
            go_meet
            exact ⟨rfl, .inr ⟨g2, h2, rfl, rfl, _, _, _, _, _, _, _, _, _, _, _, _, HP7.out.below hb810, HQ2.out.below hb810, HD.out, HB7.out.trans (hb810.mono HB7.out.size)⟩, (hb810.block wr.heap.size HZ7.out).trans HN7.out⟩
        case rest =>
        obtain ⟨rfl, HT6, HN6⟩ := hcut
        have HLc : Hid (wr.heap.size < wc.heap.size) := (Array.getElem?_eq_some_iff.1 HN6.out).1
        have HNN : Hid (∀ j, j = wr.heap.size → j < wc.heap.size) := fun j hj => by rw [hj]; exact HLc.out
        clear HT5 HN5 HW5 HL5
        have k0 := cell_of_row _ _ 0 _ _ _ HN6.out
        have k1 := cell_of_row _ _ 1 _ _ _ HN6.out
        have k2 := cell_of_row _ _ 2 _ _ _ HN6.out
        have k3 := cell_of_row _ _ 3 _ _ _ HN6.out
        have k4 := cell_of_row _ _ 4 _ _ _ HN6.out
        have k5 := cell_of_row _ _ 5 _ _ _ HN6.out
        rcases HT6.out with ⟨rfl, rfl, S, n1, v, u, L, R, hp1, hb1⟩ | ⟨g2, h2, rfl, rfl, S, n1, v, u, L, R, S2, n2, v2, u2, L2, R2, hp1, hp2, hd, hb1⟩
        · have HP1 := Lib.hid hp1
          have HB1 := Lib.hid hb1
          clear hp1 hb1 HT6
          go_upto_region 14 with (first
            | (go_at_call 13; (with_reducible refine (HST.out _ _ _ _ _ _ _ _ _ _ wc kind XA xm xc XM fr key to_ most HP1.out (by omega) (HXO.out.to HB1.out)).mono ?_); rintro e w6 ⟨rfl, S', n', v', u', L', R', ht6, hs6, hf6, hl6⟩; have HP6 := Lib.hid (HP1.out.stepped ht6 hs6 hl6 HNN.out HB1.out.size); have HB6 := Lib.hid (HP1.out.out hf6 HB1.out))
            | (go_at_call 9; (with_reducible refine (HSA.out _ _ _ _ _ _ _ _ _ _ w6 HP6.out (by omega)).mono ?_); rintro e w7 ⟨rfl, hb7⟩))
          have HRN : Hid (Two9 w w7 (fun _ => False) w.heap.size h (k + 1) (.pointer none) (.pointer none)) := .inl ⟨rfl, rfl, _, _, _, _, _, _, (HP6.out.below hb7).none_, HB6.out.trans (hb7.mono HB6.out.size)⟩
          clear ht6 hs6 hf6 hl6 hb7 k0 k1 k2 k3 k4 k5
          go_wp2_with fail
          go_roundw
          case rel => exact ⟨k + 1, by omega, by omega, rfl, by go_num, HRN⟩
          case measure => simp [RowKit.intOf]; omega
        · have HP1 := Lib.hid hp1
          have HP2 := Lib.hid hp2
          have HD := Lib.hid hd
          have HB1 := Lib.hid hb1
          clear hp1 hp2 hd hb1 HT6
          go_upto_region 14 with (first
            | (go_at_call 13; (with_reducible refine (HST.out _ _ _ _ _ _ _ _ _ _ wc kind XA xm xc XM fr key to_ most HP1.out (by omega) (HXO.out.to HB1.out)).mono ?_); rintro e w6 ⟨rfl, S', n', v', u', L', R', ht6, hs6, hf6, hl6⟩; have HP6 := Lib.hid (HP1.out.stepped ht6 hs6 hl6 HNN.out HB1.out.size); have HB6 := Lib.hid (HP1.out.out hf6 HB1.out))
            | (go_at_call 9; (with_reducible refine (HSA.out _ _ _ _ _ _ _ _ _ _ w6 HP6.out (by omega)).mono ?_); rintro e w7 ⟨rfl, hb7⟩))
          have HQ7 := Lib.hid ((HP2.out.other hf6 (fun j h1 h2 => HD.out j h2 h1)).below hb7)
          have HD7 : Hid (∀ j, S' j → ¬ S2 j) := fun j h1 h2 => by
            rcases hs6 j h1 with e | e
            · exact HD.out j e h2
            · have := HP2.out.tp.lt j h2; omega
          have HP7 := Lib.hid (HP6.out.below hb7)
          have HB7 := Lib.hid (HB6.out.trans (hb7.mono HB6.out.size))
          have HN7 := Lib.hid ((hb7.block wr.heap.size (Nat.lt_of_lt_of_le HLc.out hf6.size)).trans ((HP1.out.stay hf6 rfl HLc.out).trans HN6.out))
          have HM7 : Hid (∀ j, j = wr.heap.size → j < w7.heap.size) := fun j hj => by rw [hj]; exact Nat.lt_of_lt_of_le HLc.out (Nat.le_trans hf6.size hb7.size)
          clear ht6 hs6 hf6 hl6 hb7 k0 k1 k2 k3 k4 k5 HP1 HP2 HD HB1 HN6 HLc HNN HP6 HB6
          obtain ⟨pb, hpb⟩ : ∃ pb, ((k : Int) % 2 == 0) = pb := ⟨_, rfl⟩
          have hpb2 : ((k : Int).tmod 2 == 0) = pb := by rw [Int.tmod_eq_emod_of_nonneg (by omega)]; exact hpb
          go_upto_if 69 with fail
          clear hpb hpb2
          go_cut [9] (fun s9 wx => s9 = .bool true ∧ Hid (Duo w wx (fun _ => False) w.heap.size h g2 h2 (k + 1) (k + 1)))
          case first =>
            cases pb with
            | false =>
              go_wp2_with fail
              go_meet
              exact ⟨rfl, S', n', v', u', L', R', S2, n2, v2, u2, L2, R2, HP7.out.none_, (HQ7.out.more (by omega)).none_, HD7.out, HB7.out⟩
            | true =>
              have k0 := cell_of_row _ _ 0 _ _ _ HN7.out
              have k1 := cell_of_row _ _ 1 _ _ _ HN7.out
              have k2 := cell_of_row _ _ 2 _ _ _ HN7.out
              have k3 := cell_of_row _ _ 3 _ _ _ HN7.out
              have k4 := cell_of_row _ _ 4 _ _ _ HN7.out
              have k5 := cell_of_row _ _ 5 _ _ _ HN7.out
              go_wp2_with (first
                | (go_at_call 13; (with_reducible refine (HST.out _ _ _ _ _ _ _ _ _ _ w7 kind XA xm xc XM fr key to_ most HQ7.out (by omega) (HXO.out.to HB7.out)).mono ?_); rintro e w8 ⟨rfl, S3, n3, v3, u3, L3, R3, ht8, hs8, hf8, hl8⟩; have HQ8 := Lib.hid (HQ7.out.stepped ht8 hs8 hl8 HM7.out HB7.out.size))
                | (go_at_call 9; (with_reducible refine (HSA.out _ _ _ _ _ _ _ _ _ _ w8 HQ8.out (by omega)).mono ?_); rintro e w9 ⟨rfl, hb9⟩))
              have HP9 := Lib.hid ((HP7.out.other hf8 HD7.out).below hb9)
              have HD9 : Hid (∀ j, S' j → ¬ S3 j) := fun j h1 h2 => by
                rcases hs8 j h2 with e | e
                · exact HD7.out j h1 e
                · have := HP7.out.tp.lt j h1; omega
              have HB8 := Lib.hid (HQ7.out.out hf8 HB7.out)
              go_meet
              exact ⟨rfl, S', n', v', u', L', R', S3, n3, v3, u3, L3, R3, HP9.out.none_, (HQ8.out.below hb9).none_, HD9.out, HB8.out.trans (hb9.mono HB8.out.size)⟩
          case rest =>
            obtain ⟨rfl, S4, n4, v4, u4, L4, R4, S5, n5, v5, u5, L5, R5, hp4, hp5, hd4, hb4⟩ := hcut
            have hL4 := hp4.len
            have hL5 := hp5.len
            have hR4 := hp4.tp.len
            have hR5 := hp5.tp.len
            have HP4 := Lib.hid hp4
            have HP5 := Lib.hid hp5
            have HD4 := Lib.hid hd4
            have HB4 := Lib.hid hb4
            clear hp4 hp5 hd4 hb4 HP7 HQ7 HD7 HB7 HN7 HM7
            have HS1 := Lib.hid (same9_any 0 0 g2 w.heap.size n5 n4 v5 v4 L5 L4 wc HP5.out.tp.t HP4.out.tp.t (by omega) (by omega))
            have HS2 : Hid (∀ W, Below wc.heap.size wc W → Calls Try.prog 14 #[.pointer (some ⟨h2, 0, none⟩), .pointer (some ⟨h, 0, none⟩)] W fun e w' => e = .returned (.bool (sayL L5 L4)) ∧ Below W.heap.size W w') := fun W hW => rsame9_any 0 0 h2 h n5 n4 u5 u4 L5 L4 R5 R4 W (HP5.out.tp.r.below hW) (HP4.out.tp.r.below hW) HP5.out.tp.alk HP5.out.tp.srt HP4.out.tp.alk HP4.out.tp.srt (by omega) (by omega)
            generalize sayL L5 L4 = sb at *
            go_wp2_with (first
              | (go_at_call 12; (with_reducible refine HS1.out.mono ?_); rintro e w8 ⟨rfl, hb8⟩)
              | (go_at_call 14; (with_reducible refine (HS2.out w8 hb8).mono ?_); rintro e w9 ⟨rfl, hb9⟩))
            have hb89 := hb8.trans (hb9.mono hb8.size)
            have HRN : Hid (Two9 w w9 (fun _ => False) w.heap.size h (k + 1) (.pointer (some ⟨g2, 0, none⟩)) (.pointer (some ⟨h2, 0, none⟩))) := .inr ⟨g2, h2, rfl, rfl, _, _, _, _, _, _, _, _, _, _, _, _, HP4.out.below hb89, HP5.out.below hb89, HD4.out, HB4.out.trans (hb89.mono HB4.out.size)⟩
            clear hb8 hb9 hb89
            go_roundw
            case rel => exact ⟨k + 1, by omega, by omega, rfl, by go_num, HRN⟩
            case measure => simp [RowKit.intOf]; omega
      · have d30 : decide ((30 : Int) ≤ (k : Int)) = true := by rw [decide_eq_true_iff]; omega
        have d31 : decide (30 ≤ k) = true := by rw [decide_eq_true_iff]; omega
        obtain ⟨_, _, _, _, _, _, _, hb1⟩ := HT5.out.uno
        have HB1 := Lib.hid hb1
        clear hb1
        go_wp2_with fail
        rw [HW5.out]
        refine (HAW.out w5).mono ?_
        rintro e w9 ⟨rfl, hb9⟩
        clear r0 r1 r2 r3 r4 r5
        go_wp2_with fail
        go_ret
        exact ⟨rfl, HB1.out.trans (hb9.mono HB1.out.size)⟩
    · obtain ⟨_, _, _, _, _, _, _, hb1⟩ := HT.out.uno
      have HB1 := Lib.hid hb1
      clear hb1
      have d8 : decide ((k : Int) < (n : Int)) = false := by rw [decide_eq_false_iff_not]; omega
      go_wp2_with (go_at_call 15; (with_reducible refine (HAW.out _).mono ?_); rintro e w9 ⟨rfl, hb9⟩)
      go_ret
      exact ⟨rfl, HB1.out.trans (hb9.mono HB1.out.size)⟩
end Go.Proofs.Ytmlekkbjmfknfaa
