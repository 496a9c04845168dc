/-
  What the reference's Scan does.
-/
import Derived.Test.YthkkjefcdedlfaaRefFrame
namespace Go.Proofs.Ythkkjefcdedlfaa
open Go.RowKit
set_option linter.unusedVariables false
set_option linter.unusedSimpArgs false

set_option maxRecDepth 100000 in
set_option maxHeartbeats 4000000 in
theorem refScan_any (A : Option Addr) (n c : Nat) (b : List UInt8) (w : World) (hl : Bs w w.heap.size A n b) (hn : n ≤ c) (hc : c ≤ maxLen) (hs : n ≤ 1099511627776) :
    Calls Try.prog 50 #[.slice A n c] w fun e w' => ∃ v, e = .returned (.tuple #[v, .int .i64 (scanLen b : Nat)]) ∧ OwnR w' w.heap.size v (scan b) ∧ Below w.heap.size w w' := by
  obtain ⟨i0, hi0, hz0, hz1, hz2⟩ := info_parts slice_info
  have hlen := hl.len
  have hlen1 : b.length ≤ n := by omega
  have hlen2 : n ≤ b.length := by omega
  clear hlen
  unfold maxLen at hc
  go_enter Try.func50, Try.ntmps50
  go_wp2_with fail
  go_loopw [4, 5] (fun v a wr => ∃ k : Nat, ∃ acc : List (List UInt8), k ≤ n ∧ a = .int .i64 k ∧ acc ++ scan (b.drop k) = scan b ∧ k + scanLen (b.drop k) = scanLen b ∧ OwnR wr w.heap.size v acc ∧ Below w.heap.size w wr) (fun _ a _ => n - (intOf a).toNat)
  case atStart => exact ⟨0, [], by omega, rfl, by simp, by simp, OwnR.nil_ _ _, Below.refl _ _⟩
  case round =>
    obtain ⟨k, acc, hk, rfl, hacc, hsum, hown, hb⟩ := hrel
    have HACC := Lib.hid hacc
    have HSUM := Lib.hid hsum
    clear hacc hsum
    have hsb := Crc.size_bound (b.drop k)
    have hsl := Crc.size_le (b.drop k)
    rw [List.length_drop] at hsl
    have hzb := hb.size
    have hkc : k ≤ c := by omega
    have hdp := ((hl.below hb).wider hzb).drop k c hn
    obtain ⟨A1, n1, c1, hA1, hn1, hc1⟩ : ∃ A1 n1 c1, (if c = k then A else A.map (·.add k)) = A1 ∧ n - k = n1 ∧ c - k = c1 := ⟨_, _, _, rfl, rfl, rfl⟩
    rw [hA1, hn1] at hdp
    have HF := Lib.hid (refFirst_any A1 n1 c1 (b.drop k) wr hdp (by omega) (by unfold maxLen; omega))
    have HA := Lib.hid hA1
    have HN := Lib.hid hn1
    have HC := Lib.hid hc1
    clear hA1 hn1 hc1 hdp
    have key : ∀ (A1 : Option Addr) (n1 c1 : Nat), True := fun _ _ _ => trivial
    by_cases h0 : Crc.size (b.drop k) = 0
    · have HE : Hid (acc = scan b) := by
        have := HACC.out
        rw [(scan_none _ h0).1, List.append_nil] at this
        exact this
      have HK : Hid (k = scanLen b) := by
        have := HSUM.out
        rw [(scan_none _ h0).2] at this
        exact this
      rw [h0] at HF
      clear h0 hsb hsl HACC HSUM
      by_cases hck : c = k
      · have e1 : A1 = A := by have := HA.out; rw [if_pos hck] at this; exact this.symm
        have e2 : n1 = 0 := by have := HN.out; omega
        have e3 : c1 = 0 := by have := HC.out; omega
        subst e1 e2 e3
        subst hck
        clear HA HN HC
        go_wp2_with fail
        refine HF.out.mono ?_
        rintro e w2 ⟨v2, rfl, _, _, hb2⟩
        go_wp2_with fail
        go_ret2
        exact ⟨u4, by rw [← HK.out]; rfl, by rw [← HE.out]; exact hown.below hb2 (Nat.le_refl _), hb.trans (hb2.mono hzb)⟩
      · have e1 : A.map (·.add k) = A1 := by have := HA.out; rw [if_neg hck] at this; exact this
        have e2 := HN.out
        have e3 := HC.out
        subst e1 e2 e3
        clear HA HN HC
        go_wp2_with fail
        refine HF.out.mono ?_
        rintro e w2 ⟨v2, rfl, _, _, hb2⟩
        go_wp2_with fail
        go_ret2
        exact ⟨u4, by rw [← HK.out]; rfl, by rw [← HE.out]; exact hown.below hb2 (Nat.le_refl _), hb.trans (hb2.mono hzb)⟩
    · have hge := Crc.size_ge _ h0
      obtain ⟨s1, s2⟩ := scan_some _ h0
      rw [List.drop_drop] at s1 s2
      obtain ⟨k2, hk2⟩ : ∃ k2, k + Crc.size (b.drop k) = k2 := ⟨_, rfl⟩
      rw [hk2] at s1 s2
      have HA2 : Hid ((acc ++ [Crc.body (b.drop k)]) ++ scan (b.drop k2) = scan b) := by
        show _ = _
        rw [List.append_assoc, List.singleton_append, ← s1]
        exact HACC.out
      have HS2 : Hid (k2 + scanLen (b.drop k2) = scanLen b) := by
        show _ = _
        have := HSUM.out
        omega
      have HNZ := Lib.hid h0
      clear s1 s2 HACC HSUM h0
      have hck : ¬ c = k := by omega
      have e1 : A.map (·.add k) = A1 := by have := HA.out; rw [if_neg hck] at this; exact this
      have e2 := HN.out
      have e3 := HC.out
      subst e1 e2 e3
      clear HA HN HC
      generalize Crc.size (b.drop k) = z at *
      generalize Crc.body (b.drop k) = bd at *
      have hk2n : k2 ≤ n := by omega
      have hk2i : (k : Int) + (z : Int) = (k2 : Int) := by omega
      have hk2k : k < k2 := by omega
      have hz0' : ((z : Int) == 0) = false := by rw [beq_eq_false_iff_ne]; omega
      clear hk2
      obtain ⟨vs, hown1, hrow1⟩ := hown.cells
      have HLT := Lib.hid hown.lt
      have HR := Lib.hid hrow1
      have HO := Lib.hid hown1
      clear hown hown1 hrow1
      have hal : acc.length ≤ 1099511627776 := by
        have h1 := congrArg List.length HA2.out
        have h2 := scan_len8 _ b (Nat.le_refl _)
        simp only [List.length_append] at h1
        omega
      go_wp2_with fail
      refine HF.out.mono ?_
      rintro e w3 ⟨v3, rfl, hown3, _, hb3⟩
      replace hown3 := hown3 HNZ.out
      obtain ⟨A3, c3, rfl, hc3, hm3, hbs3, hlt3, _⟩ := hown3.form
      have HO3 : Hid (w3.ownsRow w.heap.size 23 1 u4 acc.length vs) := by
        refine ⟨HO.out.1, ?_⟩
        rcases HO.out.2 with h2 | ⟨g, cap, cur, hv, hg, hh, r⟩
        · exact .inl h2
        · have hgl : g < wr.heap.size := (Array.getElem?_eq_some_iff.1 hh).1
          exact .inr ⟨g, cap, cur, hv, hg, (hb3.block g hgl).trans hh, r⟩
      have hz3 := hb3.size
      go_wp2_with (at_builtin; refine wpList_append_src _ rfl (.tmp 19) (.tmp 21) 24 rfl w.heap.size 23 i0 _ 24 Try.underlying24 hi0 hz0 hz1 hz2 rfl _ acc.length vs rfl (HO3.out.alloc _) (w3.heap.size + 1) (some ⟨w3.heap.size, 0, none⟩) 1 1 _ rfl rfl (Lies.of_new _ _ _) ?h1 ?h2 ?h3 ?h4 ?_)
      case h1 => rfl
      case h2 => unfold maxLen; omega
      case h3 => omega
      case h4 => simp; omega
      intro v4 w4 hown4 hg4 hat4
      have hba : Below w3.heap.size w3 (w3.alloc (.cells #[.slice A3 bd.length c3] 23)) := (Below.refl _ _).alloc (Nat.le_refl _) _
      have hne : ∀ p, A3 = some p → bd ≠ [] → some p.block ≠ u4.ownBlock := by
        intro p hp _ he
        have h1 := (hlt3 p.block (by rw [hp]; rfl)).1
        have h2 := (HLT.out p.block he.symm).2
        omega
      have R : OwnR w4 w.heap.size v4 (acc ++ [bd]) := OwnR.push (HO3.out.alloc _) (rows_below hba (rows_below hb3 HR.out)) ((hbs3.below hba).wider (by simp)) hc3 hm3 hne hown4 hg4 (by simpa using hat4)
      have hb4 : Below w.heap.size w w4 := ((hb.trans (hb3.mono hzb)).alloc (by omega) _).trans ((Below.refl _ _).grown hg4 (by simp; omega) (fun k hk => (HLT.out k hk).1))
      clear hown4 hg4 hat4 HO3 HR HLT HO hne hba hbs3 hown3 hlt3 hb hb3 HF
      go_wp2_with fail
      go_roundw
      case rel => exact ⟨k2, acc ++ [bd], by omega, by go_num, HA2.out, HS2.out, R, hb4⟩
      case measure => simp [intOf]; omega
end Go.Proofs.Ythkkjefcdedlfaa
