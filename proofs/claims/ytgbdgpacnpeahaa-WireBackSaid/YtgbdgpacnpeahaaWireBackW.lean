/-
  The walk through WireBack.
-/
import Derived.Test.YtgbdgpacnpeahaaWbR
import Derived.Test.YtgbdgpacnpeahaaWbK
import Derived.Test.YtgbdgpacnpeahaaWireAwake
import Derived.Test.YtgbdgpacnpeahaaItemD
import Derived.Test.YtgbdgpacnpeahaaWireAt
import Derived.Deep.CutBlock
import Derived.Deep.DeepCutAuto
namespace Go.Proofs.Ytgbdgpacnpeahaa
open Go.RowKit Go.Lib Go.Sort
set_option linter.unusedVariables false
set_option linter.unusedSimpArgs false

def encK (KS : List KI) : List UInt8 := (KS.map fun y => (toldS y.x).getD []).flatten
theorem encK_push (KS : List KI) (y : KI) {b : List UInt8} (h : toldS y.x = some b) : encK (KS ++ [y]) = encK KS ++ b := by simp [encK, h]
theorem encK_at (KS : List KI) (k : Nat) (h : k < KS.length) {b : List UInt8} (hb : toldS (KS.getD k default).x = some b) : ∃ r, (encK KS).drop (encK (KS.take k)).length = b ++ r ∧ encK (KS.take (k + 1)) = encK (KS.take k) ++ b := by
  have e1 : KS.take (k + 1) = KS.take k ++ [KS.getD k default] := by
    rw [List.take_succ_eq_append_getElem h, List.getD_eq_getElem?_getD, List.getElem?_eq_getElem h]; rfl
  have e2 : KS = KS.take (k + 1) ++ KS.drop (k + 1) := (List.take_append_drop _ _).symm
  have e3 : encK (KS.take (k + 1)) = encK (KS.take k) ++ b := by rw [e1, encK_push _ _ hb]
  refine ⟨encK (KS.drop (k + 1)), ?_, e3⟩
  have e4 : encK KS = encK (KS.take (k + 1)) ++ encK (KS.drop (k + 1)) := by
    have : ∀ a b : List KI, encK (a ++ b) = encK a ++ encK b := fun a b => by simp [encK]
    rw [← this, List.take_append_drop]
  rw [e4, e3, List.append_assoc, List.drop_left]
theorem item_zero : (Try.prog.info? 28).map (fun i => (i.zero, i.size, i.bytes)) = some (some (.agg #[.int .i64 0, .int .u64 0, .int .i64 0, .int .i64 0, .string ⟨#[]⟩, .bool false, .slice none 0 0, .slice none 0 0]), 8, 104) := by kernel_rfl
/-- what the first loop carries -/
structure B1 (w wr : World) (va vk : Value) (al : List UInt8) (KS : List KI) : Prop where
  oa : Own wr w.heap.size va al
  ok : OwnK wr w.heap.size vk va KS
  e : al = encK KS
  bel : Below w.heap.size w wr
theorem is_lt {w : World} {B n : Nat} {A : Option Addr} {I : List Int} (h : Is w B A n I) (hI : I ≠ []) : ∀ p, A = some p → p.block < B := fun p hp => by
  have := List.length_pos_iff.2 hI
  have hn := h.len
  obtain ⟨q, e, hb, _⟩ := h.row 0 (by omega)
  rw [hp] at e
  injection e with e
  subst e
  exact hb
theorem cut_kin {x : Item} {w w' : World} {B lc ic lc' : Nat} {p : Addr} {LA IA LA' : Option Addr} {F : List (Option Nat)} {b : List UInt8} (h : ItAt w B p x LA lc IA ic) (hw : Below B w w') (hB : B ≤ w'.heap.size) (hl : Lies w' w'.heap.size LA' (x.cut.L.map .string)) (h1 : x.cut.L.length ≤ lc') (h2 : lc' ≤ maxLen)
    (hf : ∀ q, LA' = some q → ∀ f ∈ F, f ≠ some q.block) (hg : ∀ f ∈ F, ∀ k, f = some k → B ≤ k) (hb : toldS x.cut = some b) : Kin w' F ⟨x.cut, LA', lc', IA, ic⟩ := by
  have ha := cut_at (lc' := lc') h hw hB hl
  have hi := (h.i.below hw)
  refine ⟨ha.ok, hl, h1, h2, ha.i, by have := h.i1; simp only [Item.cut, List.length_take]; omega, h.i2, fun p hp _ => hf p hp, fun p hp hne f hf2 e => ?_, cutS_size _ _, fun s hs => ?_, by simp only [Item.cut, List.length_map, List.length_take]; omega, by simp only [Item.cut, List.length_take]; omega, b, hb, cut_len x b hb⟩
  · have hxI : x.I ≠ [] := fun e2 => hne (by simp only [Item.cut, e2, List.take_nil])
    have h3 := is_lt hi hxI p hp
    have h4 := hg f hf2 _ e
    omega
  · obtain ⟨y, _, rfl⟩ := List.mem_map.1 hs
    exact cutS_size y 60

theorem at_below {x : Item} {w w' : World} {B lc ic : Nat} {LA IA : Option Addr} (h : x.at_ w B LA lc IA ic) (hb : Below B w w') : x.at_ w' B LA lc IA ic := ⟨h.ok, h.l.below hb, h.i.below hb, h.l1, h.i1, h.s1⟩
/-- read, at the bytes of a kept item -/
theorem read_all (g c p : Nat) (A : Option Addr) (l r b : List UInt8) (y : KI) (w : World) (h : Rd w g A c l p 0) (hk : Kin w [some g] y) (ht : toldS y.x = some b) (hd : l.drop p = b ++ r) :
    Calls Try.prog 11 #[.pointer (some ⟨g, 0, none⟩), .agg #[.int .i64 y.x.kind, .int .u64 (y.x.u : Int), .int .i64 y.x.n, .int .i64 y.x.m, .string y.x.s, .bool y.x.on, .slice y.LA y.x.L.length y.lc, .slice y.IA y.x.I.length y.ic]] w (ReadP w g c A l (p + b.length)) := by
  obtain ⟨x, LA, lc, IA, ic⟩ := y
  have hgr : ∀ W, w.grownBy W (some g) → Kin W [some g] ⟨x, LA, lc, IA, ic⟩ := fun W hW => hk.grow hW (.inr (by simp)) fun f hf => .inl hf
  have hs := hk.s
  have hls := hk.ls
  have hln := hk.ln
  have hjn := hk.jn
  have hok := hk.ok
  have him := hk.i.mems
  simp only at *
  obtain ⟨kd, u, n, m, s, on, L, I⟩ := x
  unfold toldS at ht
  simp only at *
  by_cases h0 : kd = 0
  · subst h0; rw [if_pos rfl] at ht; injection ht with ht; subst ht
    exact read_0 g c p A l r u n m s on _ _ w h hok.u1 hd
  rw [if_neg h0] at ht
  by_cases h1 : kd = 1
  · subst h1; rw [if_pos rfl] at ht; injection ht with ht; subst ht
    exact read_1 g c p A l r u n m s on _ _ w h hok.n1 hok.n2 hd
  rw [if_neg h1] at ht
  by_cases h2 : kd = 2
  · subst h2; rw [if_pos rfl] at ht; injection ht with ht; subst ht
    exact read_2 g c p A l r u n m s on _ _ w h (by omega) hd
  rw [if_neg h2] at ht
  by_cases h3 : kd = 3
  · subst h3; rw [if_pos rfl] at ht; injection ht with ht; subst ht
    have hfl : (encF_ on).length = 1 := by unfold encF_; split <;> rfl
    rw [hfl]
    exact read_3 g c p A l r u n m s on _ _ w h hd
  rw [if_neg h3] at ht
  by_cases h4 : kd = 4
  · subst h4; rw [if_pos rfl] at ht; injection ht with ht; subst ht
    exact read_4 g c p A LA lc l r u n m s on L _ w h hls (by omega) (fun W hW => (hgr W hW).l) hd
  rw [if_neg h4] at ht
  by_cases h5 : kd = 5
  · subst h5; rw [if_pos rfl] at ht; injection ht with ht; subst ht
    exact read_5 g c p A IA ic l r u n m s on I _ w h him (by omega) (fun W hW => (hgr W hW).i.liesI) hd
  rw [if_neg h5] at ht
  cases ht
set_option maxHeartbeats 1000000 in
/-- NewReader, and where the reader's bytes lie -/
theorem newReader3_any (A : Option Addr) (n c B : Nat) (l : List UInt8) (w : World) (h : Bs w B A n l) (hn : n ≤ 1099511627776) (hB : B ≤ w.heap.size) :
    Calls Try.prog 10 #[.slice A n c] w fun e w' => ∃ g A' c', e = .returned (.pointer (some ⟨g, 0, none⟩)) ∧ w.heap.size ≤ g ∧ Rd w' g A' c' l 0 0 ∧ Below w.heap.size w w' := by
  obtain rfl : l.length = n := h.len
  have HC := Lib.hid (cloneB_any A l.length c B l w h hn hB)
  clear h
  go_enter Try.func10, Try.ntmps10
  go_wp2_with fail
  refine HC.out.mono ?_
  rintro e w1 ⟨v1, rfl, ho1, hb1⟩
  clear HC
  obtain ⟨A1, c1, rfl, hc1, hm1, hbs1, hk1, _⟩ := ho1.form
  have hz := hb1.size
  go_wp2_with fail
  go_ret
  exact ⟨w1.heap.size, A1, c1, rfl, hz, ⟨heap_alloc_new w1 _, hc1, hm1, hbs1.alloc (Nat.le_refl _) _, by omega, by omega⟩, hb1.alloc hz _⟩
set_option maxRecDepth 100000 in
set_option maxHeartbeats 8000000 in
theorem wireBack_any (A : Option Addr) (n c : Nat) (X : List Item) (w : World) (hX : Its w w.heap.size A n X) (hn : n ≤ maxLen) :
    Calls Try.prog 3 #[.slice A n c] w fun e w' => e = .returned (.bool true) ∧ Below w.heap.size w w' := by
  obtain ⟨i0, qi0, qz0, qz1, qz2⟩ := info_parts byte_info
  obtain ⟨j0, qj0, qy0, qy1, qy2⟩ := info_parts item_zero
  have HX := Lib.hid hX
  unfold maxLen at hn
  clear hX
  go_enter Try.func3, Try.ntmps3
  go_upto_block 0 with fail
  go_cut [3, 4] (fun va vk wx => ∃ (al : List UInt8) (KS : List KI), Hid (B1 w wx va vk al KS) ∧ KS.length ≤ 40 ∧ Hid (al.length ≤ 400000))
  case first =>
    go_wp2_with fail
    go_loopw [3, 4, 16] (fun va vk i wr => ∃ k : Nat, k ≤ n ∧ k ≤ 40 ∧ i = .int .i64 k ∧ ∃ (al : List UInt8) (KS : List KI), Hid (B1 w wr va vk al KS) ∧ KS.length ≤ k ∧ al.length ≤ k * 10000) (fun _ _ i _ => n - (RowKit.intOf i).toNat)
    case atStart => exact ⟨0, by omega, by omega, rfl, [], [], ⟨Own.nil_ _ _, OwnK.nil_ _ _ _, rfl, Below.refl _ _⟩, Nat.le_refl _, Nat.le_refl _⟩
    case round =>
      obtain ⟨k, hk, hk40, rfl, al, KS, HB, hks, hal⟩ := hrel
      have hz := HB.out.bel.size
      by_cases hlt : k < n
      · obtain ⟨p, LA, lc, IA, ic, rfl, hx⟩ := (HX.out.below HB.out.bel).row k hlt
        have c0 := hx.c0
        have c1 := hx.c1
        have c2 := hx.c2
        have c3 := hx.c3
        have c4 := hx.c4
        have c5 := hx.c5
        have c6 := hx.c6
        have c7 := hx.c7
        rw [add_pos _ _ (by omega)] at c1 c2 c3 c4 c5 c6 c7
        have HIX := Lib.hid hx
        clear hx
        generalize X.getD k default = x at *
        by_cases h40 : k < 40
        · have d40 : decide ((40 : Int) ≤ (k : Int)) = false := by rw [decide_eq_false_iff_not]; omega
          have d41 : decide (40 ≤ k) = false := by rw [decide_eq_false_iff_not]; omega
          go_wp2_with fail
          have hal1 := (Below.refl wr.heap.size wr).alloc (Nat.le_refl _) (.cells (x.cells LA lc IA ic) 28)
          have HB1 := Lib.hid (HB.out.bel.alloc hz (.cells (x.cells LA lc IA ic) 28))
          have HX1 := Lib.hid (HIX.out.below ((Below.refl w.heap.size wr).alloc hz (.cells (x.cells LA lc IA ic) 28)))
          have HOA1 := Lib.hid (HB.out.oa.alloc (.cells (x.cells LA lc IA ic) 28))
          have HOK1 := Lib.hid (HB.out.ok.alloc (.cells (x.cells LA lc IA ic) 28))
          have HE := Lib.hid HB.out.e
          clear HB HIX c0 c1 c2 c3 c4 c5 c6 c7 hal1
          change Calls _ _ _ (wr.alloc (.cells (x.cells LA lc IA ic) 28)) _
          generalize wr.alloc (.cells (x.cells LA lc IA ic) 28) = w1 at *
          refine (cutN_any x LA IA lc ic w.heap.size w1 HX1.out.l HB1.out.size HX1.out.l1 HX1.out.l2 HX1.out.i1 HX1.out.i2).mono ?_
          rintro e w2 ⟨LA', lc', he, hl1, hl2, hlies, hb2, hnew⟩
          have HIN : Hid (∀ F b, (∀ q, LA' = some q → ∀ f ∈ F, f ≠ some q.block) → (∀ f ∈ F, ∀ k, f = some k → w.heap.size ≤ k) → toldS x.cut = some b → Kin w2 F ⟨x.cut, LA', lc', IA, ic⟩) := fun F b h1 h2 h3 => cut_kin HX1.out (hb2.mono HB1.out.size) (Nat.le_trans HB1.out.size hb2.size) hlies hl1 hl2 h1 h2 h3
          have HAT := Lib.hid (cut_at (lc' := lc') HX1.out (hb2.mono HB1.out.size) (Nat.le_trans HB1.out.size hb2.size) hlies)
          have HCL := Lib.hid (cut_len x)
          have HOA2 := Lib.hid (HOA1.out.below hb2 (Nat.le_refl _))
          have HOK2 := Lib.hid (HOK1.out.below hb2 (Nat.le_refl _))
          have HBE2 := Lib.hid (HB1.out.trans (hb2.mono HB1.out.size))
          have HNW : Hid (∀ q, LA' = some q → ∀ f ∈ [(u4 : Value).ownBlock, (u3 : Value).ownBlock], f ≠ some q.block) := fun q hq f hf => by
            have h1 := hnew q hq
            simp only [List.mem_cons, List.not_mem_nil, or_false] at hf
            rcases hf with rfl | rfl
            · intro e; have := (HOK1.out.lt _ e).2; omega
            · intro e; have := (World.ownsRow.lt HOA1.out _ e).2; omega
          have HGE : Hid (∀ f ∈ [(u4 : Value).ownBlock, (u3 : Value).ownBlock], ∀ k, f = some k → w.heap.size ≤ k) := fun f hf k e => by
            simp only [List.mem_cons, List.not_mem_nil, or_false] at hf
            rcases hf with rfl | rfl
            · exact (HOK1.out.lt _ e).1
            · exact (World.ownsRow.lt HOA1.out _ e).1
          clear hlies hb2 hnew HOA1 HOK1 HX1 HB1
          generalize x.cut = y at *
          simp only [Item.cells] at he
          subst he
          have hal3 := (Below.refl w2.heap.size w2).alloc (Nat.le_refl _) (.cells (y.cells LA' lc' IA ic) 28)
          have hN3 := heap_alloc_new w2 (.cells (y.cells LA' lc' IA ic) 28)
          go_wp2_with fail
          change Calls _ _ _ (w2.alloc (.cells (y.cells LA' lc' IA ic) 28)) _
          generalize w2.alloc (.cells (y.cells LA' lc' IA ic) 28) = w3 at *
          have HOA3 := Lib.hid (HOA2.out.below hal3 (Nat.le_refl _))
          have HOK3 := Lib.hid (HOK2.out.below hal3 (Nat.le_refl _))
          have HBE3 := Lib.hid (HBE2.out.trans (hal3.mono HBE2.out.size))
          have HL2 : Hid (w2.heap.size < w3.heap.size) := (Array.getElem?_eq_some_iff.1 hN3).1
          have HV : Hid (∀ k, (u3 : Value).ownBlock = some k → k < w2.heap.size) := fun k e => (World.ownsRow.lt HOA2.out k e).2
          have HT := Lib.hid (told_any y LA' IA lc' ic w2.heap.size w3 (at_below HAT.out hal3) hal3.size)
          have HN3 := Lib.hid hN3
          have HA3 := Lib.hid hal3
          clear hN3 hal3 HOA2 HOK2 HBE2 HAT
          unfold ToldPost at HT
          cases hts : toldS y with
          | none =>
            rw [hts] at HT
            clear hts HCL
            refine HT.out.mono ?_
            rintro e w4 ⟨rfl, hb4⟩
            have HB4 : Hid (B1 w w4 u3 u4 al KS) := ⟨HOA3.out.below hb4 (Nat.le_refl _), HOK3.out.below hb4 (Nat.le_refl _), HE.out, HBE3.out.trans (hb4.mono HBE3.out.size)⟩
            go_wp2_with fail
            go_roundw
            case rel => exact ⟨k + 1, by omega, by omega, by go_num, al, KS, HB4, by omega, by omega⟩
            case measure => simp [RowKit.intOf]; omega
          | some b =>
            have hbl := HCL.out b hts
            have HKY := Lib.hid ((HIN.out _ b HNW.out HGE.out hts).below HA3.out (Nat.le_refl _))
            have HTS := Lib.hid hts
            rw [hts] at HT
            clear hts HCL HIN
            refine HT.out.mono ?_
            rintro e w4 ⟨v1, v2, rfl, ho1, ho2, hb4⟩
            have HOA4 := Lib.hid (HOA3.out.below hb4 (Nat.le_refl _))
            have HOK4 := Lib.hid (HOK3.out.below hb4 (Nat.le_refl _))
            have HBE4 := Lib.hid (HBE3.out.trans (hb4.mono HBE3.out.size))
            have HKY4 := Lib.hid (HKY.out.below hb4 (Nat.le_refl _))
            have HN4 := Lib.hid ((hb4.block _ HL2.out).trans HN3.out)
            have HL4 : Hid (w2.heap.size < w4.heap.size) := Nat.lt_of_lt_of_le HL2.out hb4.size
            obtain ⟨A1, c1, rfl, hc1, hm1, hbs1, hlt1, _⟩ := ho1.form
            clear HOA3 HOK3 HBE3 HKY HN3 HT hb4 ho2 ho1 HA3 hlt1
            obtain ⟨bn, hbn⟩ : ∃ m, b.length = m := ⟨_, rfl⟩
            rw [hbn] at hbl hc1 hbs1
            rw [hbn]
            have HBN := Lib.hid hbn
            clear hbn
            obtain ⟨an, han⟩ : ∃ m, al.length = m := ⟨_, rfl⟩
            have HAN := Lib.hid han
            rw [han] at hal
            clear han
            have hz4 := HBE4.out.size
            go_wp2_with (at_builtin; refine wpList_append_src _ rfl (.tmp 32) (.tmp 33) 23 rfl w.heap.size 5 i0 _ 1 Try.underlying23 qi0 qz0 qz1 qz2 rfl _ al.length (bvs al) rfl HOA4.out w4.heap.size A1 bn c1 (bvs b) rfl ?h1 hbs1.lies (bvs_one _) ?h2 ?h3 ?h4 ?_)
            case h1 => rw [bvs_length]; exact HBN.out
            case h2 => rw [HAN.out]; unfold maxLen; omega
            case h3 => rw [HAN.out]; omega
            case h4 => exact hz4
            intro v5 w5 hown5 hg5 hat5
            have HOA5 : Hid (Own w5 w.heap.size v5 (al ++ b)) := by
              show w5.ownsRow _ _ _ _ _ _
              rw [bvs_append, List.length_append, HBN.out]
              exact hown5
            have HBE5 := Lib.hid (HBE4.out.trans ((Below.refl _ _).grown hg5 hz4 (fun k hk => (World.ownsRow.lt HOA4.out k hk).1)))
            have hne4 := two_rows' HOK4.out.own HOA4.out (by decide)
            have HOK5 := Lib.hid (HOK4.out.grow (vb' := v5) hg5 hat5 hne4)
            have HKY5 : Hid (Kin w5 [(u4 : Value).ownBlock, v5.ownBlock] ⟨y, LA', lc', IA, ic⟩) := HKY4.out.grow hg5 (.inr (by simp)) (fun f hf => by
              simp only [List.mem_cons, List.not_mem_nil, or_false] at hf
              rcases hf with rfl | rfl
              · exact .inl (by simp)
              · rcases hat5 with e | e
                · rw [e]; exact .inl (by simp)
                · exact .inr (.inr ⟨_, e, Nat.le_refl _⟩))
            have hN5 := (hg5.block _ HL4.out (fun e => by have := HV.out _ e.symm; omega)).trans HN4.out
            have e0 : w5.cell? ⟨w2.heap.size, 0, none⟩ = some (.int .i64 y.kind) := cell_of_row _ _ 0 _ _ _ hN5
            have e1 : w5.cell? ⟨w2.heap.size, 1, none⟩ = some (.int .u64 (y.u : Int)) := cell_of_row _ _ 1 _ _ _ hN5
            have e2 : w5.cell? ⟨w2.heap.size, 2, none⟩ = some (.int .i64 y.n) := cell_of_row _ _ 2 _ _ _ hN5
            have e3 : w5.cell? ⟨w2.heap.size, 3, none⟩ = some (.int .i64 y.m) := cell_of_row _ _ 3 _ _ _ hN5
            have e4 : w5.cell? ⟨w2.heap.size, 4, none⟩ = some (.string y.s) := cell_of_row _ _ 4 _ _ _ hN5
            have e5 : w5.cell? ⟨w2.heap.size, 5, none⟩ = some (.bool y.on) := cell_of_row _ _ 5 _ _ _ hN5
            have e6 : w5.cell? ⟨w2.heap.size, 6, none⟩ = some (.slice LA' y.L.length lc') := cell_of_row _ _ 6 _ _ _ hN5
            have e7 : w5.cell? ⟨w2.heap.size, 7, none⟩ = some (.slice IA y.I.length ic) := cell_of_row _ _ 7 _ _ _ hN5
            have HZ5 := Lib.hid hg5.size
            clear hN5 hown5 hg5 hat5 hne4 HOA4 HOK4 HBE4 HKY4 HN4 hbs1
            have hz5 := HBE5.out.size
            have hal6 := (Below.refl w5.heap.size w5).alloc (Nat.le_refl _) (.cells (y.cells LA' lc' IA ic) 28)
            have HOK6 := Lib.hid (HOK5.out.below hal6 (Nat.le_refl _))
            have HOA6 := Lib.hid (HOA5.out.below hal6 (Nat.le_refl _))
            have HKY6 := Lib.hid (HKY5.out.below hal6 (Nat.le_refl _))
            have HBE6 := Lib.hid (HBE5.out.trans (hal6.mono hz5))
            clear hal6 HOA5 HOK5 HKY5
            obtain ⟨kn, hkn⟩ : ∃ m, KS.length = m := ⟨_, rfl⟩
            have HKN := Lib.hid hkn
            rw [hkn] at hks
            clear hkn
            go_wp2_with (at_builtin; refine wpList_append_lies _ rfl (.tmp 35) (.tmp 37) 22 rfl w.heap.size 28 j0 _ 8 104 Try.underlying22 qj0 qy0 qy1 qy2 rfl (by decide) _ KS.length (kcells KS) rfl HOK6.out.own ⟨w5.heap.size, 0, none⟩ 1 1 (KI.cells ⟨y, LA', lc', IA, ic⟩) rfl rfl (new_cellsW _ (KI.cells ⟨y, LA', lc', IA, ic⟩) _) ?g1 (by omega) ?g2 ?g3 ?g4 (w5.heap.size + 1) (by simp) ?_)
            case g1 => intro u hu; exact kcells_one [⟨y, LA', lc', IA, ic⟩] u (by simpa [kcells] using hu)
            case g2 => rw [HKN.out]; unfold maxLen; omega
            case g3 => rw [HKN.out]; omega
            case g4 => simp; omega
            intro gg cap w7 hown7 hg7 hat7 hlt7
            have HB7 : Hid (B1 w w7 v5 (.slice (some ⟨gg, 0, none⟩) (KS.length + 1) cap) (al ++ b) (KS ++ [⟨y, LA', lc', IA, ic⟩])) := by
              have hne6 := two_rows' HOA6.out HOK6.out.own (by decide)
              refine ⟨HOA6.out.kept hg7 hne6, HOK6.out.push HKY6.out hown7 hg7 ?_, ?_, ?_⟩
              · rcases hat7 with e | e
                · exact .inl e.symm
                · right
                  show some gg = some _
                  rw [e]
                  simp
              · rw [encK_push KS _ HTS.out, HE.out]
              · exact HBE6.out.trans ((Below.refl _ _).grown hg7 HBE6.out.size (fun k hk => (HOK6.out.lt k hk).1))
            have HLN : Hid ((KS ++ [(⟨y, LA', lc', IA, ic⟩ : KI)]).length ≤ k + 1 ∧ (al ++ b).length ≤ (k + 1) * 10000) := ⟨by rw [List.length_append, HKN.out]; show kn + 1 ≤ _; omega, by rw [List.length_append, HAN.out, HBN.out]; omega⟩
            clear hown7 hg7 hat7
            go_wp2_with fail
            go_roundw
            case rel => exact ⟨k + 1, by omega, by omega, by go_num, _, _, HB7, HLN.out.1, HLN.out.2⟩
            case measure => simp [RowKit.intOf]; omega
        · have d40 : decide ((40 : Int) ≤ (k : Int)) = true := by rw [decide_eq_true_iff]; omega
          have d41 : decide (40 ≤ k) = true := by rw [decide_eq_true_iff]; omega
          go_wp2_with fail
          go_meet
          exact ⟨al, KS, ⟨HB.out.oa.alloc _, HB.out.ok.alloc _, HB.out.e, HB.out.bel.alloc hz _⟩, by omega, by show _ ≤ _; omega⟩
      · have d8 : decide ((k : Int) < (n : Int)) = false := by rw [decide_eq_false_iff_not]; omega
        have d9 : decide (k < n) = false := by rw [decide_eq_false_iff_not]; omega
        go_wp2_with fail
        go_meet
        exact ⟨al, KS, HB, by omega, by show _ ≤ _; omega⟩
  case rest =>
    obtain ⟨al, KS, HB, hks, HAL⟩ := hcut
    obtain ⟨AK, cK, hvk, hkc, hkm, hrow⟩ := HB.out.ok.its
    obtain ⟨Ab, cb, hva, hcb, hmb, hbsb, _, _⟩ := HB.out.oa.form
    subst hvk hva
    have HROW := Lib.hid hrow
    have HINS := Lib.hid HB.out.ok.ins
    have HE := Lib.hid HB.out.e
    have HBE := Lib.hid HB.out.bel
    have hal := HAL.out
    have HNR := Lib.hid (newReader3_any Ab al.length cb wc.heap.size al wc hbsb (by omega) (Nat.le_refl _))
    clear HB hrow hbsb
    obtain ⟨m, hm⟩ : ∃ m, KS.length = m := ⟨_, rfl⟩
    have HM := Lib.hid hm
    obtain ⟨an, han⟩ : ∃ m, al.length = m := ⟨_, rfl⟩
    have HAN := Lib.hid han
    rw [hm] at hks hkc ⊢
    rw [han] at hal hcb HNR ⊢
    clear hm han HAL
    go_wp2_with (go_at_call 10; (with_reducible refine HNR.out.mono ?_); rintro e w2 ⟨g, Aq, cq, rfl, hg, hrd, hb2⟩)
    have HG := Lib.hid hg
    go_loopw [46] (fun iv wr => ∃ j : Nat, j ≤ m ∧ iv = .int .i64 j ∧ Hid (Rd wr g Aq cq al (encK (KS.take j)).length 0) ∧ Hid (Below wc.heap.size wc wr)) (fun iv _ => m - (RowKit.intOf iv).toNat)
    case atStart => exact ⟨0, by omega, rfl, hrd, hb2⟩
    case round =>
      obtain ⟨j, hj, rfl, HR, HBW⟩ := hrel
      by_cases hlt : j < m
      · obtain ⟨pp, rfl, hit0⟩ := HROW.out j (by rw [HM.out]; exact hlt)
        have hit := hit0.below HBW.out
        have hmem : KS.getD j default ∈ KS := by
          rw [List.getD_eq_getElem?_getD, List.getElem?_eq_getElem (by rw [HM.out]; exact hlt)]
          exact List.getElem_mem _
        have hkin : Kin wr [some g] (KS.getD j default) := (HINS.out _ hmem).grow (g := none) ⟨HBW.out.os, HBW.out.tape, HBW.out.output, HBW.out.size, fun k hk _ => HBW.out.block k hk⟩ (.inl rfl) (fun f hf => by
          rw [List.mem_singleton] at hf
          exact .inr (.inr ⟨g, hf, HG.out⟩))
        obtain ⟨b, hb, _⟩ := hkin.t
        obtain ⟨r, hd, hnx⟩ := encK_at KS j (by rw [HM.out]; exact hlt) hb
        rw [← HE.out] at hd
        have k0 := hit.c0
        have k1 := hit.c1
        have k2 := hit.c2
        have k3 := hit.c3
        have k4 := hit.c4
        have k5 := hit.c5
        have k6 := hit.c6
        have k7 := hit.c7
        rw [add_pos _ _ (by omega)] at k1 k2 k3 k4 k5 k6 k7
        have HKIN := Lib.hid hkin
        have HTB := Lib.hid hb
        have HDR := Lib.hid hd
        have HNX := Lib.hid hnx
        clear hit hit0 hmem hkin hb hd hnx
        generalize KS.getD j default = y at *
        obtain ⟨q, hq⟩ : ∃ q, (encK (KS.take j)).length = q := ⟨_, rfl⟩
        have HQ := Lib.hid hq
        rw [hq] at HR HDR
        clear hq
        have hjz : (j : Int) < (m : Int) := by omega
        have hB6 := (Below.refl wr.heap.size wr).alloc (Nat.le_refl _) (.cells #[.int .i64 y.x.kind, .int .u64 (y.x.u : Int), .int .i64 y.x.n, .int .i64 y.x.m, .string y.x.s, .bool y.x.on, .slice y.LA y.x.L.length y.lc, .slice y.IA y.x.I.length y.ic] 28)
        have HRD := Lib.hid (read_all g cq q Aq al r b y _ (HR.out.below hB6 HR.out.lt) (HKIN.out.below hB6 (Nat.le_refl _)) HTB.out HDR.out)
        have HB6 := Lib.hid (HBW.out.trans (hB6.mono HBW.out.size))
        clear hB6
        go_wp2_with (first
          | (go_at_call 11; (with_reducible refine HRD.out.mono ?_); rintro e w8 ⟨rfl, hr8, hg8⟩; have HR8 := Lib.hid hr8; have HG8 := Lib.hid hg8; clear hr8 hg8)
          | (go_at_call 12; refine (err_any g cq _ 0 Aq al w8 HR8.out).mono ?_; rintro e wa ⟨rfl, hwa⟩; have hwa' := hwa.symm; subst hwa'))
        have HB8 : Hid (Below wc.heap.size wc w8) := HB6.out.grown HG8.out HB6.out.size (fun k hk => by injection hk with hk; have := HG.out; omega)
        have HR9 : Hid (Rd w8 g Aq cq al (encK (KS.take (j + 1))).length 0) := by
          show Rd _ _ _ _ _ _ _
          rw [HNX.out, List.length_append, HQ.out]
          exact HR8.out
        go_roundw
        case rel => exact ⟨j + 1, by omega, by go_num, HR9, HB8⟩
        case measure => simp [RowKit.intOf]; omega
      · obtain rfl : j = m := by omega
        have d8 : decide ((j : Int) < (j : Int)) = false := by simp
        have HE2 : Hid ((encK (KS.take j)).length = an) := by
          show _ = _
          rw [List.take_of_length_le (by rw [HM.out]; omega), ← HE.out, HAN.out]
        rw [HE2.out] at HR
        have HLF : Hid (Calls Try.prog 13 #[.pointer (some ⟨g, 0, none⟩)] wr fun e w' => e = .returned (.int .i64 0) ∧ ∃ k, w' = wr.drewN k) := by
          have := pLeft_any g cq an 0 Aq al wr HR.out
          rw [HAN.out, Nat.sub_self] at this
          exact this
        have HEN : Hid (∀ W, Rd W g Aq cq al an 0 → Calls Try.prog 15 #[.pointer (some ⟨g, 0, none⟩)] W fun e w' => e = .returned (.int .i64 0) ∧ Rd w' g Aq cq al an 0 ∧ W.grownBy w' (some g)) := fun W hW => by
          have := pEnd_any g cq an 0 Aq al W hW
          have e : endE al an 0 = 0 := by unfold endE; rw [if_neg (by have := HAN.out; omega)]
          rw [e] at this
          exact this
        go_wp2_with (first
          | (go_at_call 13; (with_reducible refine HLF.out.mono ?_); rintro e wa ⟨rfl, kk, rfl⟩; have HRN := Lib.hid (HR.out.drewN kk); have HBN := Lib.hid (below_draws HBW.out kk))
          | (go_at_call 14; refine (at_any g cq an 0 Aq al _ HRN.out).mono ?_; rintro e wa ⟨rfl, hwa⟩; have hwa' := hwa.symm; subst hwa')
          | (go_at_call 15; refine (HEN.out _ HRN.out).mono ?_; rintro e wb ⟨rfl, hrb, hgb⟩; have HBB : Hid (Below wc.heap.size wc wb) := HBN.out.grown hgb HBN.out.size (fun k hk => by injection hk with hk; have := HG.out; omega))
          | (go_at_call 16; refine (awake1_any _).mono ?_; rintro e wd ⟨rfl, hbd⟩))
        go_ret
        exact ⟨rfl, HBE.out.trans ((HBB.out.trans (hbd.mono HBB.out.size)).mono HBE.out.size)⟩
end Go.Proofs.Ytgbdgpacnpeahaa
