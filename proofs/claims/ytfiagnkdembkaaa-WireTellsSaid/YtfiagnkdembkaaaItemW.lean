/-
  Items in a slice; WireTells.
-/
import Derived.Test.YtfiagnkdembkaaaItemT
import Derived.Test.YtfiagnkdembkaaaWireAwake
import Derived.Test.YtfiagnkdembkaaaRows3
namespace Go.Proofs.Ytfiagnkdembkaaa
open Go.RowKit
set_option linter.unusedVariables false
set_option linter.unusedSimpArgs false

theorem add_pos (p : Addr) (j : Nat) (h : 0 < j) : p.add j = ⟨p.block, p.off + j, none⟩ := by
  unfold Addr.add
  rw [if_neg (by omega)]

instance : Inhabited Item := ⟨⟨0, 0, 0, 0, ⟨#[]⟩, false, [], []⟩⟩
/-- the k-th item lies at p -/
structure ItAt (w : World) (B : Nat) (p : Addr) (x : Item) (LA : Option Addr) (lc : Nat) (IA : Option Addr) (ic : Nat) : Prop where
  blk : p.block < B
  c0 : w.cell? p = some (.int .i64 x.kind)
  c1 : w.cell? (p.add 1) = some (.int .u64 (x.u : Int))
  c2 : w.cell? (p.add 2) = some (.int .i64 x.n)
  c3 : w.cell? (p.add 3) = some (.int .i64 x.m)
  c4 : w.cell? (p.add 4) = some (.string x.s)
  c5 : w.cell? (p.add 5) = some (.bool x.on)
  c6 : w.cell? (p.add 6) = some (.slice LA x.L.length lc)
  c7 : w.cell? (p.add 7) = some (.slice IA x.I.length ic)
  ok : x.ok
  l : Lies w B LA (x.L.map .string)
  l1 : x.L.length ≤ lc
  l2 : lc ≤ maxLen
  i : Is w B IA x.I.length x.I
  i1 : x.I.length ≤ ic
  i2 : ic ≤ maxLen
structure Its (w : World) (B : Nat) (A : Option Addr) (n : Nat) (X : List Item) : Prop where
  len : X.length = n
  row : ∀ k, k < n → ∃ p LA lc IA ic, A = some p ∧ ItAt w B (p.add (k * 8)) (X.getD k default) LA lc IA ic
section
variable {w w' : World} {B n lc ic : Nat} {A LA IA : Option Addr} {p : Addr} {x : Item} {X : List Item}
theorem ItAt.below (h : ItAt w B p x LA lc IA ic) (hb : Below B w w') : ItAt w' B p x LA lc IA ic := by
  have hk : ∀ j, w'.cell? (p.add j) = w.cell? (p.add j) := fun j => hb.cell (by rw [add_block]; exact h.blk)
  exact ⟨h.blk, (hb.cell h.blk).trans h.c0, (hk 1).trans h.c1, (hk 2).trans h.c2, (hk 3).trans h.c3, (hk 4).trans h.c4, (hk 5).trans h.c5, (hk 6).trans h.c6, (hk 7).trans h.c7, h.ok, h.l.keep fun _ hp => hb.cell hp, h.l1, h.l2, h.i.below hb, h.i1, h.i2⟩
theorem Its.below (h : Its w B A n X) (hb : Below B w w') : Its w' B A n X :=
  ⟨h.len, fun k hk => by
    obtain ⟨p, LA, lc, IA, ic, e, hr⟩ := h.row k hk
    exact ⟨p, LA, lc, IA, ic, e, hr.below hb⟩⟩
theorem Is.below' {m : Nat} {L : List Int} (h : Is w B IA m L) (hb : Below B w w') : Is w' B IA m L := h.below hb
end

def tellL (X : List Item) : List (List UInt8) := X.filterMap fun x => toldS x.cut
theorem tellL_succ (X : List Item) (k : Nat) (h : k < X.length) : tellL (X.take (k + 1)) = tellL (X.take k) ++ (toldS (X.getD k default).cut).toList := by
  unfold tellL
  rw [List.take_succ_eq_append_getElem h, List.filterMap_append, List.getD_eq_getElem?_getD, List.getElem?_eq_getElem h]
  simp only [List.filterMap_cons, List.filterMap_nil, Option.getD_some]
  cases toldS (X[k]).cut <;> rfl
theorem encTs_all (L : List ByteArray) (m : Nat) (h : ∀ s ∈ L, s.size ≤ m) : (encTs L).length ≤ L.length * (m + 10) := by
  have := encTs_len L m L.length h (Nat.le_refl _)
  rwa [List.take_of_length_le (Nat.le_refl _)] at this
theorem cut_len (x : Item) : ∀ b, toldS x.cut = some b → b.length ≤ 10000 := by
  intro b hb
  have h1 := (Wn.enc_len x.cut.u).2
  have h2 := (Wn.enc_len (Wn.zig x.cut.n)).2
  have h3 := encT_len x.cut.s
  have h3' : x.cut.s.size ≤ 300 := cutS_size _ _
  have h4 := (Wn.enc_len x.cut.L.length).2
  have h5 : x.cut.L.length ≤ 12 := by simp only [Item.cut, List.length_map, List.length_take]; omega
  have h5' := encTs_all x.cut.L 60 (by intro s hs; obtain ⟨y, _, rfl⟩ := List.mem_map.1 hs; exact cutS_size _ _)
  have h6 := (Wn.enc_len x.cut.I.length).2
  have h7 : x.cut.I.length ≤ 20 := by simp only [Item.cut, List.length_take]; omega
  have h7' := told_len x.cut.I x.cut.I.length (Nat.le_refl _)
  have h8 : (encF_ x.cut.on).length = 1 := by unfold encF_; split <;> rfl
  have h9 : x.cut.L.length * (60 + 10) ≤ 12 * 70 := Nat.mul_le_mul h5 (Nat.le_refl _)
  have h10 : x.cut.I.length * 10 ≤ 20 * 10 := Nat.mul_le_mul h7 (Nat.le_refl _)
  unfold toldS at hb
  repeat' split at hb
  all_goals first | (injection hb with hb; subst hb; (try rw [List.length_append]); omega) | cases hb
theorem tellL_len (X : List Item) : (tellL X).length ≤ X.length := List.length_filterMap_le _ _
theorem tellL_tot (X : List Item) : (tellL X).flatten.length ≤ X.length * 10000 := by
  induction X with
  | nil => simp [tellL]
  | cons x X ih =>
    have e : tellL (x :: X) = (toldS x.cut).toList ++ tellL X := by
      unfold tellL
      rw [List.filterMap_cons]
      cases toldS x.cut <;> rfl
    rw [e, List.flatten_append, List.length_append, List.length_cons]
    have h := cut_len x
    generalize (tellL X).flatten = fl at *
    cases hx : toldS x.cut with
    | none => simp only [Option.toList, List.flatten_nil, List.length_nil]; omega
    | some b => have := h b hx; simp only [Option.toList, List.flatten_cons, List.flatten_nil, List.append_nil]; omega
theorem cut_at {x : Item} {w w' : World} {B lc ic lc' : Nat} {p : Addr} {LA IA LA' : Option Addr} (h : ItAt w B p x LA lc IA ic) (hw : Below B w w') (hB : B ≤ w'.heap.size) (hl : Lies w' w'.heap.size LA' (x.cut.L.map .string)) : x.cut.at_ w' w'.heap.size LA' lc' IA ic := by
  refine ⟨⟨h.ok.k1, h.ok.k2, h.ok.u1, h.ok.n1, h.ok.n2, h.ok.m1, h.ok.m2⟩, ⟨rfl, hl, fun s hs => ?_⟩, ?_, ?_, ?_, ?_⟩
  · obtain ⟨y, _, rfl⟩ := List.mem_map.1 hs
    have := cutS_size y 60
    omega
  · have h1 := ((h.i.below hw).take (min 20 x.I.length) (Nat.min_le_right _ _)).wider hB
    have e : x.cut.I = x.I.take (min 20 x.I.length) := by
      show x.I.take 20 = _
      rw [Nat.min_def]
      split
      · rfl
      · rw [List.take_of_length_le (by omega), List.take_of_length_le (Nat.le_refl _)]
    rw [e, List.length_take]
    have e2 : min (min 20 x.I.length) x.I.length = min 20 x.I.length := by omega
    rw [e2]
    exact h1
  · simp only [Item.cut, List.length_map, List.length_take]; omega
  · simp only [Item.cut, List.length_take]; omega
  · have : x.cut.s.size ≤ 300 := cutS_size _ _
    omega

theorem slice_info : (Try.prog.info? 23).map (fun i => (i.zero, i.size, i.bytes)) = some (some (.slice none 0 0), 1, 24) := by kernel_rfl

set_option maxRecDepth 100000 in
set_option maxHeartbeats 4000000 in
theorem tells_walk (A : Option Addr) (n c : Nat) (X : List Item) (w : World) (hX : Its w w.heap.size A n X) (hn : n ≤ maxLen) :
    Calls Try.prog 3 #[.slice A n c] w fun e w' => e = .returned (.bool true) ∧ Below w.heap.size w w' := by
  obtain ⟨i0, qi0, qz0, qz1, qz2⟩ := info_parts byte_info
  obtain ⟨j0, qj0, qy0, qy1, qy2⟩ := info_parts slice_info
  have HN := Lib.hid hX.len
  unfold maxLen at hn
  go_enter Try.func3, Try.ntmps3
  go_wp2_with fail
  go_loopw [3, 4, 12] (fun vb vp i wr => ∃ k : Nat, k ≤ n ∧ k ≤ 40 ∧ i = .int .i64 k ∧ Own wr w.heap.size vb (tellL (X.take k)).flatten ∧ OwnQ wr w.heap.size vp vb (tellL (X.take k)) ∧ Below w.heap.size w wr) (fun _ _ i _ => n - (intOf i).toNat)
  case atStart => exact ⟨0, by omega, by omega, rfl, Own.nil_ _ _, OwnQ.nil_ _ _ _, Below.refl _ _⟩
  case round =>
    obtain ⟨k, hk, hk40, rfl, hob, hop, hb⟩ := hrel
    have hz := hb.size
    by_cases hlt : k < n ∧ k < 40
    · obtain ⟨hlt, hlt40⟩ := hlt
      obtain ⟨p, LA, lc, IA, ic, rfl, hx⟩ := (hX.below hb).row k hlt
      have HS := Lib.hid (tellL_succ X k (by rw [HN.out]; exact hlt))
      have hfl : (tellL (X.take k)).flatten.length ≤ 400000 := by
        have := tellL_tot (X.take k)
        rw [List.length_take] at this
        omega
      have hpl : (tellL (X.take k)).length ≤ 40 := by
        have := tellL_len (X.take k)
        rw [List.length_take] at this
        omega
      generalize X.getD k default = x at *
      generalize tellL (X.take k) = acc at *
      obtain ⟨fl, hfle⟩ : ∃ fl, acc.flatten = fl := ⟨_, rfl⟩
      rw [hfle] at hob hfl
      have HFL := Lib.hid hfle
      clear hfle
      have HCL := Lib.hid (cut_len x)
      have HX := Lib.hid hx
      have c0 := hx.c0
      have c1 : wr.cell? ⟨(p.add (k * 8)).block, (p.add (k * 8)).off + 1, none⟩ = some (.int .u64 (x.u : Int)) := by rw [← add_pos _ 1 (by omega)]; exact hx.c1
      have c2 : wr.cell? ⟨(p.add (k * 8)).block, (p.add (k * 8)).off + 2, none⟩ = some (.int .i64 x.n) := by rw [← add_pos _ 2 (by omega)]; exact hx.c2
      have c3 : wr.cell? ⟨(p.add (k * 8)).block, (p.add (k * 8)).off + 3, none⟩ = some (.int .i64 x.m) := by rw [← add_pos _ 3 (by omega)]; exact hx.c3
      have c4 : wr.cell? ⟨(p.add (k * 8)).block, (p.add (k * 8)).off + 4, none⟩ = some (.string x.s) := by rw [← add_pos _ 4 (by omega)]; exact hx.c4
      have c5 : wr.cell? ⟨(p.add (k * 8)).block, (p.add (k * 8)).off + 5, none⟩ = some (.bool x.on) := by rw [← add_pos _ 5 (by omega)]; exact hx.c5
      have c6 : wr.cell? ⟨(p.add (k * 8)).block, (p.add (k * 8)).off + 6, none⟩ = some (.slice LA x.L.length lc) := by rw [← add_pos _ 6 (by omega)]; exact hx.c6
      have c7 : wr.cell? ⟨(p.add (k * 8)).block, (p.add (k * 8)).off + 7, none⟩ = some (.slice IA x.I.length ic) := by rw [← add_pos _ 7 (by omega)]; exact hx.c7
      have HOB := Lib.hid hob
      have HOP := Lib.hid hop
      clear hob hop hx
      have hk40' : decide ((40 : Int) ≤ (k : Int)) = false := by rw [decide_eq_false_iff_not]; omega
      go_wp2_with fail
      have hB1 := hb.alloc hz (.cells (x.cells LA lc IA ic) 29)
      have hX1 := HX.out.below ((Below.refl w.heap.size wr).alloc hz (.cells (x.cells LA lc IA ic) 29))
      have hob1 := HOB.out.alloc (.cells (x.cells LA lc IA ic) 29)
      have hop1 := HOP.out.alloc (.cells (x.cells LA lc IA ic) 29)
      clear HOB HOP HX c0 c1 c2 c3 c4 c5 c6 c7
      change Calls _ _ _ (wr.alloc (.cells (x.cells LA lc IA ic) 29)) _
      generalize wr.alloc (.cells (x.cells LA lc IA ic) 29) = w1 at *
      have hz1 := hB1.size
      refine (cutI_any x LA IA lc ic w.heap.size w1 hX1.l hz1 hX1.l1 hX1.l2 hX1.i1 hX1.i2).mono ?_
      rintro e w2 ⟨LA', lc', rfl, hl1, hl2, hlies, hb2⟩
      have hx2 := cut_at (lc' := lc') hX1 (hb2.mono hz1) (Nat.le_trans hz1 hb2.size) hlies
      have hob2 := hob1.below hb2 (Nat.le_refl _)
      have hop2 := hop1.below hb2 (Nat.le_refl _)
      have hB2 := hB1.trans (hb2.mono hz1)
      have HT := Lib.hid (told_any x.cut LA' IA lc' ic w2.heap.size w2 hx2 (Nat.le_refl _))
      have HOB := Lib.hid hob2
      have HOP := Lib.hid hop2
      have hz2' := hB2.size
      clear hob1 hob2 hop1 hop2 hB1 hb2 hX1 hlies hx2 hb hX
      unfold ToldPost at HT
      cases hts : toldS x.cut with
      | none =>
        rw [hts] at HS HT
        clear hts HCL
        go_wp2_with fail
        refine HT.out.mono ?_
        rintro e w3 ⟨rfl, hb3⟩
        have hob3 := HOB.out.below hb3 (Nat.le_refl _)
        have hop3 := HOP.out.below hb3 (Nat.le_refl _)
        have hB3 := hB2.trans (hb3.mono hz2')
        go_wp2_with fail
        go_roundw
        case rel => exact ⟨k + 1, by omega, by omega, by go_num, by rw [HS.out, Option.toList_none, List.append_nil, HFL.out]; exact hob3, by rw [HS.out, Option.toList_none, List.append_nil]; exact hop3, hB3⟩
        case measure => simp [intOf]; omega
      | some b =>
        have hbl := HCL.out b hts
        rw [hts] at HS HT
        clear hts HCL
        go_wp2_with fail
        refine HT.out.mono ?_
        rintro e w3 ⟨v1, v2, rfl, ho1, ho2, hb3⟩
        have hob3 := HOB.out.below hb3 (Nat.le_refl _)
        have hop3 := HOP.out.below hb3 (Nat.le_refl _)
        have hB3 := hB2.trans (hb3.mono hz2')
        have hz3 := hB3.size
        have hz32 := hb3.size
        have hl1' := HOB.out.form
        obtain ⟨Ab, cb, rfl, hcb, hmb, hbsb, hltb, hcb0⟩ := hl1'
        have hl2' := HOP.out.lt
        obtain ⟨A1, c1, rfl, hc1, hm1, hbs1, hlt1, _⟩ := ho1.form
        obtain ⟨A2, c2, rfl, hc2, hm2, hbs2, hlt2, _⟩ := ho2.form
        have s1 := hbs1.str (P := Try.prog) (src := 23) (dst := 9) (e := 5) Try.underlying23 Try.underlying5 Try.underlying9 c1
        have s2 := hbs2.str (P := Try.prog) (src := 23) (dst := 9) (e := 5) Try.underlying23 Try.underlying5 Try.underlying9 c2
        obtain ⟨bn, hbn⟩ : ∃ m, b.length = m := ⟨_, rfl⟩
        rw [hbn] at hbl hc1 hc2 hbs1 hbs2 s1 s2
        rw [hbn]
        have HBN := Lib.hid hbn
        clear hbn
        have HO1 := Lib.hid ho1
        have HOB3 := Lib.hid hob3
        have HOP3 := Lib.hid hop3
        clear HT HOB HOP hb3 ho1 ho2 hob3 hop3
        go_wp2_with (at_builtin; refine wpList_append_src _ rfl (.tmp 33) (.tmp 34) 23 rfl w.heap.size 5 i0 _ 1 Try.underlying23 qi0 qz0 qz1 qz2 rfl _ fl.length (bvs fl) rfl HOB3.out w3.heap.size A2 bn c2 (bvs b) rfl ?h1 hbs2.lies (bvs_one _) ?h2 ?h3 ?h4 ?_)
        case h1 => rw [bvs_length]; exact HBN.out
        case h2 => unfold maxLen; omega
        case h3 => omega
        case h4 => exact hz3
        intro v4 w4 hown4 hg4 hat4
        have hob4 : Own w4 w.heap.size v4 (fl ++ b) := by
          unfold Own
          rw [bvs_append, List.length_append, HBN.out]
          exact hown4
        have hB4 := hB3.trans ((Below.refl _ _).grown hg4 hz3 (fun k hk => (World.ownsRow.lt HOB3.out k hk).1))
        have hne3 := two_rows' HOP3.out.rows.choose_spec.1 HOB3.out (by decide)
        have hop4 := HOP3.out.grow (vb' := v4) hg4 hat4 hne3
        have hR3 : Row w3 [(u4 : Value).ownBlock, (Value.slice Ab fl.length cb).ownBlock] A1 c1 b := ⟨by rw [HBN.out]; exact hc1, hm1, by rw [HBN.out]; exact hbs1, fun p hp _ f hf => by
          have hp1 := (hlt1 p.block (by rw [hp]; rfl)).1
          simp only [List.mem_cons, List.not_mem_nil, or_false] at hf
          rcases hf with rfl | rfl
          · intro e; have := (hl2' _ e).2; omega
          · intro e; have := (hltb _ e).2; omega⟩
        have hR4 := hR3.grow (F' := [(u4 : Value).ownBlock, v4.ownBlock]) hg4 (.inr (by simp)) (fun f hf => by
          simp only [List.mem_cons, List.not_mem_nil, or_false] at hf
          rcases hf with rfl | rfl
          · exact .inl (by simp)
          · rcases hat4 with e | e
            · rw [e]; exact .inl (by simp)
            · exact .inr (.inr ⟨_, e, Nat.le_refl _⟩))
        have hz4 := hB4.size
        obtain ⟨vs, hown5, hrow5⟩ := hop4.rows
        have hnq := two_rows' hob4 hown5 (by decide)
        have hal := (Below.refl w4.heap.size w4).alloc (Nat.le_refl _) (.cells #[.slice A1 bn c1] 23)
        have hown5' := hown5.alloc (.cells #[.slice A1 bn c1] 23)
        have hrow5' := rows_below3 hal hrow5
        have hR4' : Row (w4.alloc (.cells #[.slice A1 bn c1] 23)) [(u4 : Value).ownBlock, v4.ownBlock] A1 c1 b := ⟨hR4.le, hR4.cm, (hR4.bs.below hal).wider hal.size, hR4.far⟩
        have hob4' := hob4.alloc (.cells #[.slice A1 bn c1] 23)
        have hB4' := hB4.alloc hz4 (.cells #[.slice A1 bn c1] 23)
        have HOWN5 := Lib.hid hown5'
        have HROW5 := Lib.hid hrow5'
        have HR4 := Lib.hid hR4'
        have HOB4 := Lib.hid hob4'
        have HNQ := Lib.hid hnq
        clear s1 s2 hbs2 hbs1 hbsb hown4 hg4 hat4 hne3 hR3 hR4 hop4 hown5 hrow5 hal hown5' hrow5' hR4' hob4' hnq HO1 HOB3 HOP3 hB3 hB2 hob4 hlt1 hlt2 hltb hl2' hcb0
        obtain ⟨av, hav⟩ : ∃ av, acc.length = av := ⟨_, rfl⟩
        rw [hav] at HOWN5 hpl
        have HAV := Lib.hid hav
        clear hav
        go_wp2_with (at_builtin; refine wpList_append_src _ rfl (.tmp 36) (.tmp 38) 24 rfl w.heap.size 23 j0 _ 24 Try.underlying24 qj0 qy0 qy1 qy2 rfl _ av vs rfl HOWN5.out (w4.heap.size + 1) (some ⟨w4.heap.size, 0, none⟩) 1 1 _ rfl rfl (Lies.of_new _ _ _) ?g1 ?g2 ?g3 ?g4 ?_)
        case g1 => rfl
        case g2 => unfold maxLen; omega
        case g3 => omega
        case g4 => simp; omega
        intro v6 w6 hown6 hg6 hat6
        have hop6 := OwnQ.push (vb := v4) (l := b) (by rw [HAV.out]; exact HOWN5.out) HROW5.out HBN.out HR4.out (by rw [HAV.out]; exact hown6) hg6 (by simpa using hat6)
        have hob6 : Own w6 w.heap.size v4 (fl ++ b) := World.ownsRow.kept HOB4.out hg6 HNQ.out
        have hB6 := hB4'.trans ((Below.refl _ _).grown hg6 (by simp; omega) (fun k hk => (World.ownsRow.lt HOWN5.out k hk).1))
        clear hown6 hg6 hat6 HOWN5 HROW5 HR4 HOB4
        go_wp2
        go_roundw
        case rel => exact ⟨k + 1, by omega, by omega, by go_num, by rw [HS.out, Option.toList_some, List.flatten_append, HFL.out]; simpa using hob6, by rw [HS.out]; exact hop6, hB6⟩
        case measure => simp [intOf]; omega
    · have hex : k = n ∨ (k < n ∧ k = 40) := by omega
      have hfl : (tellL (X.take k)).flatten.length ≤ 400000 := by
        have := tellL_tot (X.take k)
        rw [List.length_take] at this
        omega
      generalize tellL (X.take k) = acc at *
      obtain ⟨Ap, cp, rfl, hcp, hmp, hRs⟩ := hop.toR.rs
      obtain ⟨Ab, cb, rfl, hcb, hmb, hbsb, hltb, hcb0⟩ := hob.form
      have hal : acc.length ≤ maxLen := by omega
      have HJ : Hid (∀ W, Below wr.heap.size wr W → Calls Try.prog 16 #[.slice Ap acc.length cp] W.drew fun e w' => ∃ v, e = .returned v ∧ Own w' W.drew.heap.size v acc.flatten ∧ Below W.drew.heap.size W.drew w') := fun W h => join_any Ap acc.length cp acc wr.heap.size W.drew (hRs.below h).drew h.size hal (by unfold tot; omega)
      have HJ0 : Hid (∀ W, Calls Try.prog 16 #[.slice none 0 0] W fun e w' => ∃ v, e = .returned v ∧ Own w' W.heap.size v [] ∧ Below W.heap.size W w') := fun W => join_any none 0 0 [] 0 W Rs.nil_ (Nat.zero_le _) (Nat.zero_le _) (by simp [tot])
      generalize acc.flatten = fl at *
      generalize acc.length = an at *
      have HBS : Hid (∀ W, Below wr.heap.size wr W → (convert 23 9 (.slice Ab fl.length cb)).run Try.prog W = .ok (.string ⟨fl.toArray⟩) W) := fun W h => (hbsb.below h).str (P := Try.prog) (src := 23) (dst := 9) (e := 5) Try.underlying23 Try.underlying5 Try.underlying9 cb
      have HB := Lib.hid hb
      unfold maxLen at hal hmp hmb
      have HXX := Lib.hid (hX.below hb)
      clear hop hob hRs hbsb hltb hcb0 hX hb
      rcases hex with rfl | ⟨hlt1, hk4⟩
      · clear HXX
        have HWR := Lib.hid (Below.refl wr.heap.size wr)
        have s1 := HBS.out wr.drew HWR.out.drew
        go_wp2_with fail
        first
          | go_region_held (fun w' => (convert 23 9 (.slice Ab fl.length cb)).run Try.prog w' = .ok (.string ⟨fl.toArray⟩) w') (first | exact s1 | exact s2 | exact s4 | exact s5)
              (first
                | (go_at_call_of 16 (Value.slice none 0 0); refine (HJ0.out _).mono ?_; rintro e w4 ⟨v4, rfl, ho4, hb4⟩; obtain ⟨A4, c4, rfl, hc4, hm4, hbs4, _, _⟩ := ho4.form; have hQ4 := hQ3.trans (hb4.mono hQ3.size); have s4 := HBS.out _ hQ4; clear ho4 hbs4)
                | (go_at_call 16; refine (HJ.out _ HWR.out).mono ?_; rintro e w3 ⟨v3, rfl, ho3, hb3⟩; obtain ⟨A3, c3, rfl, hc3, hm3, hbs3, _, _⟩ := ho3.form; have hQ3 := HWR.out.drew.trans (hb3.mono HWR.out.size); have s2 := HBS.out _ hQ3; have s3 := hbs3.str (P := Try.prog) (src := 23) (dst := 9) (e := 5) Try.underlying23 Try.underlying5 Try.underlying9 c3; clear ho3 hbs3)
                | (go_at_call 17; refine (awake1_any _).mono ?_; rintro e w5 ⟨rfl, hb5⟩; have hQ5 := hQ4.trans (hb5.mono hQ4.size); have s5 := HBS.out _ hQ5))
          | fail "held"
        all_goals
          go_wp2_with fail
          go_ret
          exact ⟨rfl, HB.out.trans (hQ5.mono HB.out.size)⟩
      · obtain ⟨p, LA, lc, IA, ic, rfl, hx⟩ := HXX.out.row k hlt1
        have c0 := hx.c0
        have c1 : wr.cell? ⟨(p.add (k * 8)).block, (p.add (k * 8)).off + 1, none⟩ = some (.int .u64 ((X.getD k default).u : Int)) := by rw [← add_pos _ 1 (by omega)]; exact hx.c1
        have c2 : wr.cell? ⟨(p.add (k * 8)).block, (p.add (k * 8)).off + 2, none⟩ = some (.int .i64 (X.getD k default).n) := by rw [← add_pos _ 2 (by omega)]; exact hx.c2
        have c3 : wr.cell? ⟨(p.add (k * 8)).block, (p.add (k * 8)).off + 3, none⟩ = some (.int .i64 (X.getD k default).m) := by rw [← add_pos _ 3 (by omega)]; exact hx.c3
        have c4 : wr.cell? ⟨(p.add (k * 8)).block, (p.add (k * 8)).off + 4, none⟩ = some (.string (X.getD k default).s) := by rw [← add_pos _ 4 (by omega)]; exact hx.c4
        have c5 : wr.cell? ⟨(p.add (k * 8)).block, (p.add (k * 8)).off + 5, none⟩ = some (.bool (X.getD k default).on) := by rw [← add_pos _ 5 (by omega)]; exact hx.c5
        have c6 : wr.cell? ⟨(p.add (k * 8)).block, (p.add (k * 8)).off + 6, none⟩ = some (.slice LA (X.getD k default).L.length lc) := by rw [← add_pos _ 6 (by omega)]; exact hx.c6
        have c7 : wr.cell? ⟨(p.add (k * 8)).block, (p.add (k * 8)).off + 7, none⟩ = some (.slice IA (X.getD k default).I.length ic) := by rw [← add_pos _ 7 (by omega)]; exact hx.c7
        generalize X.getD k default = x at *
        have hge : decide ((40 : Int) ≤ (k : Int)) = true := by rw [decide_eq_true_iff]; omega
        have HWR := Lib.hid ((Below.refl wr.heap.size wr).alloc (Nat.le_refl _) (.cells (x.cells LA lc IA ic) 29))
        have s1 := HBS.out _ HWR.out.drew
        clear hk4 HXX hx
        go_wp2_with fail
        first
          | go_region_held (fun w' => (convert 23 9 (.slice Ab fl.length cb)).run Try.prog w' = .ok (.string ⟨fl.toArray⟩) w') (first | exact s1 | exact s2 | exact s4 | exact s5)
              (first
                | (go_at_call_of 16 (Value.slice none 0 0); refine (HJ0.out _).mono ?_; rintro e w4 ⟨v4, rfl, ho4, hb4⟩; obtain ⟨A4, c4, rfl, hc4, hm4, hbs4, _, _⟩ := ho4.form; have hQ4 := hQ3.trans (hb4.mono hQ3.size); have s4 := HBS.out _ hQ4; clear ho4 hbs4)
                | (go_at_call 16; refine (HJ.out _ HWR.out).mono ?_; rintro e w3 ⟨v3, rfl, ho3, hb3⟩; obtain ⟨A3, c3, rfl, hc3, hm3, hbs3, _, _⟩ := ho3.form; have hQ3 := HWR.out.drew.trans (hb3.mono HWR.out.size); have s2 := HBS.out _ hQ3; have s3 := hbs3.str (P := Try.prog) (src := 23) (dst := 9) (e := 5) Try.underlying23 Try.underlying5 Try.underlying9 c3; clear ho3 hbs3)
                | (go_at_call 17; refine (awake1_any _).mono ?_; rintro e w5 ⟨rfl, hb5⟩; have hQ5 := hQ4.trans (hb5.mono hQ4.size); have s5 := HBS.out _ hQ5))
          | fail "held"
        all_goals
          go_wp2_with fail
          go_ret
          exact ⟨rfl, HB.out.trans (hQ5.mono HB.out.size)⟩
end Go.Proofs.Ytfiagnkdembkaaa
