/-
  FrameCuts.
-/
import Derived.Test.YthkkjefcdedlfaaScanA
import Derived.Test.YthkkjefcdedlfaaMost
namespace Go.Proofs.Ythkkjefcdedlfaa
open Go.RowKit
set_option linter.unusedVariables false
set_option linter.unusedSimpArgs false

/-- the first k bodies, sealed, one behind the other -/
def sealed (L : List (List UInt8)) (k : Nat) : List UInt8 := ((L.take k).map Crc.seal_).flatten
theorem sealed_succ (L : List (List UInt8)) (k : Nat) (h : k < L.length) : sealed L (k + 1) = sealed L k ++ Crc.seal_ (L.getD k []) := by
  unfold sealed
  rw [List.take_succ_eq_append_getElem h, List.map_append, List.flatten_append, List.getD_eq_getElem?_getD, List.getElem?_eq_getElem h]
  simp
theorem sealed_cons (x : List UInt8) (L : List (List UInt8)) (k : Nat) : sealed (x :: L) (k + 1) = Crc.seal_ x ++ sealed L k := by
  simp [sealed]
theorem sealed_zero (L : List (List UInt8)) : sealed L 0 = [] := by simp [sealed]
theorem sealed_mono (L : List (List UInt8)) : ∀ (d j : Nat), j + d ≤ L.length → (sealed L j).length ≤ (sealed L (j + d)).length := by
  intro d
  induction d with
  | zero => intro j _; exact Nat.le_refl _
  | succ d ih =>
    intro j h
    have h1 := ih j (by omega)
    rw [show j + (d + 1) = (j + d) + 1 from by omega, sealed_succ L (j + d) (by omega), List.length_append]
    omega
theorem scan_cut : ∀ (L : List (List UInt8)) (at_ j : Nat), (∀ l ∈ L, l.length ≤ 262144) → j ≤ L.length → (sealed L j).length ≤ at_ → (j < L.length → at_ < (sealed L (j + 1)).length) →
    at_ ≤ (sealed L L.length).length → scan ((sealed L L.length).take at_) = L.take j ∧ scanLen ((sealed L L.length).take at_) = (sealed L j).length := by
  intro L
  induction L with
  | nil =>
    intro at_ j _ hj _ _ h5
    have : j = 0 := by simpa using hj
    subst this
    simp only [sealed_zero, List.length_nil, List.take_nil]
    exact ⟨rfl, rfl⟩
  | cons x L ih =>
    intro at_ j hall hj h3 h4 h5
    have hx := hall x List.mem_cons_self
    have hsl := Crc.seal_length x
    rw [List.length_cons, sealed_cons] at h5 ⊢
    rw [List.length_append] at h5
    cases j with
    | zero =>
      have h6 := h4 (by simp)
      rw [Nat.zero_add, sealed_cons, sealed_zero, List.append_nil] at h6
      rw [List.take_append_of_le_length (by omega)]
      obtain ⟨e1, e2⟩ := scan_none _ (Crc.size_cut x at_ hx (by omega))
      rw [e1, e2, sealed_zero]
      exact ⟨by simp, rfl⟩
    | succ j =>
      rw [sealed_cons, List.length_append] at h3
      have e : (Crc.seal_ x ++ sealed L L.length).take at_ = Crc.seal_ x ++ (sealed L L.length).take (at_ - (Crc.seal_ x).length) := by
        rw [List.take_append, List.take_of_length_le (by omega)]
      rw [e]
      have hsz := Crc.size_seal x ((sealed L L.length).take (at_ - (Crc.seal_ x).length)) hx
      obtain ⟨s1, s2⟩ := scan_some (Crc.seal_ x ++ (sealed L L.length).take (at_ - (Crc.seal_ x).length)) (by rw [hsz]; omega)
      rw [hsz] at s1 s2
      rw [Crc.body_seal _ _ hx] at s1
      rw [← hsl, List.drop_left'] at s1 s2
      rotate_left
      · rfl
      · rfl
      obtain ⟨i1, i2⟩ := ih (at_ - (Crc.seal_ x).length) j (fun l hl => hall l (List.mem_cons_of_mem _ hl)) (by simpa using hj) (by omega)
        (fun h => by have := h4 (by simpa using h); rw [sealed_cons, List.length_append] at this; omega) (by omega)
      rw [s1, s2, i1, i2, sealed_cons, List.length_append]
      exact ⟨rfl, rfl⟩

def endsV (L : List (List UInt8)) (k : Nat) : List Value := (List.range k).map fun i => .int .i64 ((sealed L (i + 1)).length : Int)
theorem endsV_succ (L : List (List UInt8)) (k : Nat) : endsV L (k + 1) = endsV L k ++ [.int .i64 ((sealed L (k + 1)).length : Int)] := by
  simp [endsV, List.range_succ]
theorem endsV_get (L : List (List UInt8)) (n k : Nat) (h : k < n) : (endsV L n)[k]? = some (.int .i64 ((sealed L (k + 1)).length : Int)) := by
  simp [endsV, h]
theorem two_rows {w : World} {base : Nat} {e e' : TypeId} {s s' : Nat} {v v' : Value} {n n' : Nat} {xs xs' : List Value} (h : w.ownsRow base e s v n xs) (h' : w.ownsRow base e' s' v' n' xs') (hne : e ≠ e') :
    v.ownBlock = none ∨ v.ownBlock ≠ v'.ownBlock := by
  rcases h.2 with ⟨rfl, _⟩ | ⟨g, cap, cur, rfl, _, hh, _⟩
  · exact .inl rfl
  · right
    rcases h'.2 with ⟨rfl, _⟩ | ⟨g', cap', cur', rfl, _, hh', _⟩
    · simp [Value.ownBlock]
    · intro e1
      simp only [Value.ownBlock, Option.some.injEq] at e1
      subst e1
      rw [hh] at hh'
      injection hh' with hh'
      injection hh' with _ ht
      exact hne ht
theorem row_below {w w' : World} {B base : Nat} {e : TypeId} {s : Nat} {v : Value} {n : Nat} {xs : List Value} (h : w.ownsRow base e s v n xs) (hb : Below B w w') (hB : w.heap.size ≤ B) : w'.ownsRow base e s v n xs := by
  refine ⟨h.1, ?_⟩
  rcases h.2 with h2 | ⟨g, cap, cur, hv, hg, hh, r⟩
  · exact .inl h2
  · have hgl : g < w.heap.size := (Array.getElem?_eq_some_iff.1 hh).1
    exact .inr ⟨g, cap, cur, hv, hg, (hb.block g (by omega)).trans hh, r⟩
theorem row_form {w : World} {base : Nat} {e : TypeId} {v : Value} {n : Nat} {xs : List Value} (h : w.ownsRow base e 1 v n xs) : ∃ A c, v = .slice A n c ∧ n ≤ c ∧ c ≤ maxLen ∧ Lies w w.heap.size A xs := by
  rcases h.2 with ⟨rfl, hn⟩ | ⟨g, cap, cur, rfl, hb, hg, hnc, hm, _⟩
  · subst hn
    have : xs = [] := List.length_eq_zero_iff.1 (by have := h.1; omega)
    subst this
    exact ⟨none, 0, rfl, by omega, by simp [maxLen], Lies.empty⟩
  · exact ⟨_, cap, rfl, hnc, hm, Lies.of_row h⟩
theorem int_info : (Try.prog.info? 3).map (fun i => (i.zero, i.size, i.bytes)) = some (some (.int .i64 0), 1, 8) := by kernel_rfl
theorem Rs.take {w : World} {B n : Nat} {A : Option Addr} {L : List (List UInt8)} (h : Rs w B A n L) (k : Nat) (hk : k ≤ n) : Rs w B A k (L.take k) := by
  have hl := h.len
  refine ⟨by rw [List.length_take]; omega, fun j hj => ?_⟩
  have e : (L.take k).getD j [] = L.getD j [] := by
    rw [List.getD_eq_getElem?_getD, List.getD_eq_getElem?_getD, List.getElem?_take, if_pos hj]
  rw [e]
  exact h.row j (by omega)
theorem few_each (L : List (List UInt8)) : ∀ l ∈ few L, l.length ≤ 200 := by
  intro l hl
  obtain ⟨x, _, rfl⟩ := List.mem_map.1 hl
  simp
  omega
theorem sealed_len (L : List (List UInt8)) (h : ∀ l ∈ L, l.length ≤ 200) : ∀ k, k ≤ L.length → (sealed L k).length ≤ k * 208 := by
  intro k
  induction k with
  | zero => intro _; simp [sealed_zero]
  | succ k ih =>
    intro hk
    have h1 := ih (by omega)
    have h2 : (L.getD k []).length ≤ 200 := by
      rw [List.getD_eq_getElem?_getD, List.getElem?_eq_getElem (by omega)]
      exact h _ (List.getElem_mem _)
    rw [sealed_succ L k (by omega), List.length_append, Crc.seal_length]
    omega

set_option maxRecDepth 100000 in
set_option maxHeartbeats 2000000 in
theorem cuts_walk (A : Option Addr) (n c : Nat) (L0 : List (List UInt8)) (a1 : Int) (w : World) (hL : Rs w w.heap.size A n L0) (hn : n ≤ maxLen) (h1 : -9223372036854775808 ≤ a1 ∧ a1 ≤ 9223372036854775807) :
    Calls Try.prog 12 #[.slice A n c, .int .i64 a1] w fun e w' => e = .returned (.bool true) ∧ Below w.heap.size w w' := by
  obtain ⟨i0, hi0, hz0, hz1, hz2⟩ := info_parts byte_info
  obtain ⟨j0, hj0, hy0, hy1, hy2⟩ := info_parts int_info
  have H1 := Lib.hid h1
  clear h1
  have HF := Lib.hid (few_any A n c L0 w hL hn)
  have HE := Lib.hid (few_each L0)
  have hln : (few L0).length ≤ 8 := by simp [few]; omega
  clear hL
  generalize few L0 = L at *
  go_enter Try.func12, Try.ntmps12
  go_wp2_with fail
  refine HF.out.mono ?_
  rintro e w1 ⟨v1, rfl, hown1, hb1⟩
  obtain ⟨A1, c1, rfl, hc1, hm1, hR1⟩ := hown1.rs
  have z1 := hb1.size
  clear hown1 HF
  obtain ⟨N, hN⟩ : ∃ N, L.length = N := ⟨_, rfl⟩
  have HN := Lib.hid hN
  rw [hN] at hR1 hc1 hln
  rw [hN]
  clear hN
  go_wp2_with fail
  go_loopw [5, 6, 18] (fun vb ve i wr => ∃ k : Nat, k ≤ N ∧ i = .int .i64 k ∧ Own wr w1.heap.size vb (sealed L k) ∧ wr.ownsRow w1.heap.size 3 1 ve k (endsV L k) ∧ Below w1.heap.size w1 wr) (fun _ _ i _ => N - (intOf i).toNat)
  case atStart => exact ⟨0, by omega, rfl, by rw [sealed_zero]; exact Own.nil_ _ _, World.ownsRow_nil _ _ _ _, Below.refl _ _⟩
  case round =>
    obtain ⟨k, hk, rfl, hob, hoe, hb⟩ := hrel
    by_cases hlt : k < N
    · obtain ⟨ad, A', c', rfl, hadb, hc, hl, hm, hr⟩ := (hR1.below hb).row k hlt
      have HS := Lib.hid (sealed_succ L k (by rw [HN.out]; exact hlt))
      have HV := Lib.hid (endsV_succ L k)
      have hx : (L.getD k []).length ≤ 200 := by
        rw [List.getD_eq_getElem?_getD, List.getElem?_eq_getElem (by rw [HN.out]; exact hlt)]
        exact HE.out _ (List.getElem_mem _)
      have hsl : (sealed L k).length ≤ 2000 := by
        have := sealed_len L HE.out k (by rw [HN.out]; omega)
        omega
      rw [HS.out] at HV
      generalize L.getD k [] = x at *
      generalize sealed L k = acc at *
      have hz := hb.size
      unfold maxLen at hm
      have HOB := Lib.hid hob
      have HOE := Lib.hid hoe
      clear hob hoe
      go_wp2_with fail
      refine (seal_one A' x.length c' x wr _ rfl (hr.wider hz) hl hm (by omega)).mono ?_
      rintro e w2 ⟨A2, c2, rfl, hc2, hm2, hown2, hb2, hzz2⟩
      have hob2 := HOB.out.below hb2 (Nat.le_refl _)
      have hoe2 := row_below HOE.out hb2 (Nat.le_refl _)
      obtain ⟨_, _, hv, _, _, hbs2, _, _⟩ := hown2.form
      injection hv with hv1 hv2 hv3
      subst hv1
      rw [← hv2] at hbs2
      have hbw2 := hb.trans (hb2.mono hz)
      have hsl2 : (Crc.seal_ x).length = x.length + 8 := Crc.seal_length x
      have HSL := Lib.hid hsl2
      clear hv2 hv3 hown2 HOB HOE hb2 hsl2
      have HOE2 := Lib.hid hoe2
      have hne := two_rows hoe2 hob2 (by decide)
      clear hoe2
      go_wp2_with (at_builtin; refine wpList_append_src _ rfl (.tmp 22) (.tmp 25) 23 rfl w1.heap.size 5 i0 _ 1 Try.underlying23 hi0 hz0 hz1 hz2 rfl _ acc.length (bvs acc) rfl hob2 w2.heap.size A2 (x.length + 8) c2 (bvs (Crc.seal_ x)) rfl ?h1 hbs2.lies (bvs_one _) ?h2 ?h3 ?h4 ?_)
      case h1 => rw [bvs_length]; exact HSL.out
      case h2 => unfold maxLen; omega
      case h3 => omega
      case h4 => omega
      intro v3 w3 hown3 hg3 _
      have hob3 : Own w3 w1.heap.size v3 (acc ++ Crc.seal_ x) := by
        unfold Own
        rw [bvs_append, List.length_append, HSL.out]
        exact hown3
      have hoe3 := HOE2.out.kept hg3 hne
      have hbw3 := hbw2.trans (grown_below hob2 hg3 hbw2.size)
      have hz3 := hbw3.size
      clear hown3 hg3 hob2 HOE2 hne hbs2 hbw2
      have hne3 := two_rows hob3 hoe3 (by decide)
      obtain ⟨A3, c3, rfl, hc3, hm3, _, _, _⟩ := hob3.form
      have hle3 : (acc ++ Crc.seal_ x).length ≤ 3000 := by rw [List.length_append, HSL.out]; omega
      generalize acc ++ Crc.seal_ x = acc3 at *
      have HOB3 := Lib.hid hob3
      have HOE3 := Lib.hid hoe3
      have HNE3 := Lib.hid hne3
      clear hob3 hoe3 hne3
      go_wp2_with (at_builtin; refine wpList_append_src _ rfl (.tmp 27) (.tmp 30) 50 rfl w1.heap.size 3 j0 _ 8 Try.underlying50 hj0 hy0 hy1 hy2 rfl _ k (endsV L k) rfl (HOE3.out.alloc _) (w3.heap.size + 1) (some ⟨w3.heap.size, 0, none⟩) 1 1 _ rfl rfl (Lies.of_new _ _ _) ?g1 ?g2 ?g3 ?g4 ?_)
      case g1 => rfl
      case g2 => unfold maxLen; omega
      case g3 => omega
      case g4 => simp; omega
      intro v4 w4 hown4 hg4 _
      have hob4 : Own w4 w1.heap.size (.slice A3 acc3.length c3) acc3 := World.ownsRow.kept (HOB3.out.alloc _) hg4 HNE3.out
      have hoe4 : w4.ownsRow w1.heap.size 3 1 v4 (k + 1) (endsV L (k + 1)) := by
        rw [HV.out]
        exact hown4
      have hbw4 : Below w1.heap.size w1 w4 := (hbw3.alloc hz3 _).trans ((Below.refl _ _).grown hg4 (by simp; omega) (fun k hk => (World.ownsRow.lt HOE3.out k hk).1))
      clear hown4 hg4 HOB3 HOE3 HNE3 hbw3
      go_wp2
      go_roundw
      case rel => exact ⟨k + 1, by omega, by go_num, by rw [HS.out]; exact hob4, hoe4, hbw4⟩
      case measure => simp [intOf]; omega
    · have hkN : k = N := by omega
      subst hkN
      obtain ⟨A2, c2, rfl, hc2, hm2, hbs2, _, _⟩ := hob.form
      have hR2 := hR1.below hb
      have zz := hb.size
      have hB2 : Below w.heap.size w wr := hb1.trans (hb.mono z1)
      have HSC := Lib.hid (scan_cut L)
      have HMO := Lib.hid (sealed_mono L)
      have hM : (sealed L k).length ≤ 2000 := by
        have := sealed_len L HE.out k (by rw [HN.out]; omega)
        omega
      have HS0 : Hid (∀ j, j ≤ k → (sealed L j).length ≤ (sealed L k).length) := fun j hj => by
        have := sealed_mono L (k - j) j (by rw [HN.out]; omega)
        rw [show j + (k - j) = k from by omega] at this
        exact this
      obtain ⟨M, hMM⟩ : ∃ M, (sealed L k).length = M := ⟨_, rfl⟩
      rw [hMM] at hc2 hbs2 hM
      rw [hMM]
      have HM := Lib.hid hMM
      obtain ⟨A5, c5, rfl, hc5, hm5, hl5⟩ := row_form hoe
      clear hMM hob hoe hb hR1 hb1
      have hq := tmod_bd a1 ((M : Int) + 1) (by omega)
      obtain ⟨hq1, hq2⟩ := hq
      have hneg : (0 ≤ a1.tmod ((M : Int) + 1)) ∨ (a1.tmod ((M : Int) + 1) < 0) := by omega
      obtain ⟨q, hqq⟩ : ∃ q : Nat, (q : Int) = (if 0 ≤ a1.tmod ((M : Int) + 1) then a1.tmod ((M : Int) + 1) else - a1.tmod ((M : Int) + 1)) := ⟨(if 0 ≤ a1.tmod ((M : Int) + 1) then a1.tmod ((M : Int) + 1) else - a1.tmod ((M : Int) + 1)).toNat, by split <;> omega⟩
      have hqM : q ≤ M := by split at hqq <;> omega
      have HQ := Lib.hid hqq
      clear hqq
      unfold maxLen at hm2
      rcases hneg with hneg | hneg
      all_goals
        go_wp2_with fail
        have hk := HQ.out
        first | (rw [if_pos hneg] at hk; rw [← hk]) | (rw [if_neg (by omega)] at hk; rw [← hk])
        clear hk hneg hq1 hq2 HQ
        have htk := hbs2.take q hqM
        refine (scan_any A2 q c2 _ wr htk (by omega) hm2 (by omega)).mono ?_
        rintro e w3 ⟨v3, rfl, hown3, hb3⟩
        have hz3 := hb3.size
        have hl6 := Lib.hid (hl5.keep (w' := w3) (fun p hp => hb3.cell hp))
        have hR3 := Lib.hid (hR2.below (hb3.mono zz))
        have hB3 : Below w.heap.size w w3 := hB2.trans (hb3.mono (by omega))
        unfold maxLen at hm5
        clear hb3 hbs2 htk hR2 hB2 hl5
        obtain ⟨A7, c7, rfl, hc7, hm7, hR7⟩ := hown3.rs
        have HR7 := Lib.hid hR7
        clear hR7 hown3
        go_wp2_with fail
        go_loop [11, 12, 51] (fun a s i => ∃ k1 j : Nat, k1 ≤ k ∧ i = .int .i64 k1 ∧ j ≤ k1 ∧ a = .int .i64 j ∧ s = .int .i64 ((sealed L j).length : Nat) ∧ (sealed L j).length ≤ q ∧ (j < k1 → q < (sealed L (j + 1)).length)) (fun _ _ i => k - (intOf i).toNat)
        case atStart => exact ⟨0, 0, by omega, rfl, by omega, rfl, by rw [sealed_zero]; rfl, by rw [sealed_zero]; simp, fun h => absurd h (by omega)⟩
        case round =>
          obtain ⟨k1, j, hk1, rfl, hj1, rfl, rfl, hle, hgt⟩ := hrel
          have HGT := Lib.hid hgt
          clear hgt
          by_cases hlt1 : k1 < k
          · obtain ⟨p5, rfl, hp5, hc5'⟩ := hl6.out.get k1 _ (endsV_get L k k1 hlt1)
            by_cases hyes : (sealed L (k1 + 1)).length ≤ q
            · generalize hS1 : (sealed L (k1 + 1)).length = S1 at *
              have HS1 := Lib.hid hS1
              clear hS1
              generalize (sealed L j).length = S0 at *
              go_wp2
              go_round
              case rel => exact ⟨k1 + 1, k1 + 1, by omega, by go_num, by omega, by go_num, by rw [HS1.out], by rw [HS1.out]; exact hyes, fun h => absurd h (by omega)⟩
              case measure => simp [intOf]; omega
            · have HN1 : Hid (j < k1 + 1 → q < (sealed L (j + 1)).length) := fun h => by
                rcases Nat.lt_or_ge j k1 with h2 | h2
                · exact HGT.out h2
                · rw [show j = k1 from by omega]; omega
              generalize hS1 : (sealed L (k1 + 1)).length = S1 at *
              have HS1 := Lib.hid hS1
              clear hS1
              generalize hS0 : (sealed L j).length = S0 at *
              have HS0' := Lib.hid hS0
              clear hS0
              go_wp2
              go_round
              case rel => exact ⟨k1 + 1, j, by omega, by go_num, by omega, rfl, by rw [HS0'.out], by rw [HS0'.out]; exact hle, HN1.out⟩
              case measure => simp [intOf]; omega
          · have hk1k : k1 = k := by omega
            subst hk1k
            have hsc := HSC.out q j (fun l hl => Nat.le_trans (HE.out l hl) (by omega)) (by rw [HN.out]; exact hj1) hle (fun h => HGT.out (by rw [HN.out] at h; exact h)) (by rw [HN.out, HM.out]; exact hqM)
            rw [HN.out] at hsc
            obtain ⟨hs1, hs2⟩ := hsc
            have HR8 := HR7
            rw [hs1] at HR8 hc7
            have HLJ : Hid ((L.take j).length = j) := by rw [List.length_take, HN.out]; show _ = _; omega
            rw [HLJ.out] at HR8 hc7
            have hRt := hR3.out.take j hj1
            have HSM := Lib.hid (same_yes A7 A1 j c7 c1 w3.heap.size (L.take j) w3 HR8.out (hRt.wider (by omega)) (by unfold maxLen; omega))
            rw [hs1, hs2, HLJ.out]
            clear HR7 HR8 hRt hs1 hs2 HSC HMO HS0
            generalize (sealed L j).length = S0 at *
            have e1 : ((j : Int) == (j : Int)) = true := by simp
            have e2 : ((S0 : Int) == (S0 : Int)) = true := by simp
            have e3 : j ≤ c1 := by omega
            go_wp2_with fail
            refine HSM.out.mono ?_
            rintro e w4 ⟨rfl, hb4⟩
            go_wp2_with fail
            refine (awake2_any _).mono ?_
            rintro e w5 ⟨rfl, hb5⟩
            go_wp2_with fail
            go_ret
            have z4 := hb4.size
            have z3 := hB3.size
            exact ⟨rfl, (hB3.trans (hb4.mono (by omega))).trans (hb5.mono (by omega))⟩
end Go.Proofs.Ythkkjefcdedlfaa
