/-
  What frame.Scan does.
-/
import Derived.Test.YthkkjefcdedlfaaFewA
namespace Go.Proofs.Ythkkjefcdedlfaa
open Go.RowKit
set_option linter.unusedVariables false
set_option linter.unusedSimpArgs false

/-- the frames at the beginning of bytes: k of them, by going through -/
def frames : Nat → List UInt8 → List (List UInt8)
  | 0, _ => []
  | k + 1, b => if Crc.size b = 0 then [] else Crc.body b :: frames k (b.drop (Crc.size b))
def framesLen : Nat → List UInt8 → Nat
  | 0, _ => 0
  | k + 1, b => if Crc.size b = 0 then 0 else Crc.size b + framesLen k (b.drop (Crc.size b))
def scan (b : List UInt8) : List (List UInt8) := frames b.length b
def scanLen (b : List UInt8) : Nat := framesLen b.length b

/-- the state of Scan: what was gathered, where it stands -/
theorem frames_more (k : Nat) : ∀ (j : Nat) (b : List UInt8), b.length ≤ k → b.length ≤ j → frames k b = frames j b ∧ framesLen k b = framesLen j b := by
  induction k with
  | zero =>
    intro j b hk hj
    have : b = [] := List.length_eq_zero_iff.1 (by omega)
    subst this
    cases j with
    | zero => exact ⟨rfl, rfl⟩
    | succ j => simp [frames, framesLen, Crc.size]
  | succ k ih =>
    intro j b hk hj
    cases j with
    | zero =>
      have : b = [] := List.length_eq_zero_iff.1 (by omega)
      subst this
      simp [frames, framesLen, Crc.size]
    | succ j =>
      simp only [frames, framesLen]
      split
      · exact ⟨rfl, rfl⟩
      · rename_i h
        have h8 := Crc.size_ge b h
        have hs := Crc.size_le b
        obtain ⟨e1, e2⟩ := ih j (b.drop (Crc.size b)) (by rw [List.length_drop]; omega) (by rw [List.length_drop]; omega)
        rw [e1, e2]
        exact ⟨rfl, rfl⟩
theorem scan_none (b : List UInt8) (h : Crc.size b = 0) : scan b = [] ∧ scanLen b = 0 := by
  unfold scan scanLen
  cases hb : b.length with
  | zero => exact ⟨rfl, rfl⟩
  | succ k => simp [frames, framesLen, h]
theorem scan_some (b : List UInt8) (h : Crc.size b ≠ 0) : scan b = Crc.body b :: scan (b.drop (Crc.size b)) ∧ scanLen b = Crc.size b + scanLen (b.drop (Crc.size b)) := by
  have h8 := Crc.size_ge b h
  have hs := Crc.size_le b
  unfold scan scanLen
  cases hb : b.length with
  | zero => omega
  | succ k =>
    obtain ⟨e1, e2⟩ := frames_more k (b.drop (Crc.size b)).length (b.drop (Crc.size b)) (by rw [List.length_drop]; omega) (Nat.le_refl _)
    simp only [frames, framesLen, if_neg h]
    rw [e1, e2]
    exact ⟨rfl, rfl⟩
theorem scanLen_le : ∀ (n : Nat) (b : List UInt8), b.length ≤ n → scanLen b ≤ b.length := by
  intro n
  induction n with
  | zero => intro b hb; have : b = [] := List.length_eq_zero_iff.1 (by omega)
            subst this; simp [scanLen, framesLen]
  | succ n ih =>
    intro b hb
    by_cases h : Crc.size b = 0
    · rw [(scan_none b h).2]; omega
    · have h8 := Crc.size_ge b h
      have hs := Crc.size_le b
      have := ih (b.drop (Crc.size b)) (by rw [List.length_drop]; omega)
      rw [(scan_some b h).2]
      rw [List.length_drop] at this
      omega
theorem scan_len8 : ∀ (n : Nat) (b : List UInt8), b.length ≤ n → 8 * (scan b).length ≤ b.length := by
  intro n
  induction n with
  | zero => intro b hb; have : b = [] := List.length_eq_zero_iff.1 (by omega)
            subst this; simp [scan, frames]
  | succ n ih =>
    intro b hb
    by_cases h : Crc.size b = 0
    · rw [(scan_none b h).1]; simp
    · have h8 := Crc.size_ge b h
      have hs := Crc.size_le b
      have := ih (b.drop (Crc.size b)) (by rw [List.length_drop]; omega)
      rw [(scan_some b h).1, List.length_cons]
      rw [List.length_drop] at this
      omega

set_option maxRecDepth 100000 in
set_option maxHeartbeats 2000000 in
theorem scan_any (A : Option Addr) (n c : Nat) (b : List UInt8) (w : World) (hl : Bs w w.heap.size A n b) (hn : n ≤ c) (hc : c ≤ maxLen) (hs : n ≤ 1099511627776) :
    Calls Try.prog 49 #[.slice A n c] w fun e w' => ∃ v, e = .returned (.tuple #[v, .int .i64 (scanLen b : Nat)]) ∧ OwnR w' w.heap.size v (scan b) ∧ Below w.heap.size w w' := by
  obtain ⟨i0, hi0, hz0, hz1, hz2⟩ := info_parts slice_info
  have hlen := hl.len
  have hlen1 : b.length ≤ n := by omega
  have hlen2 : n ≤ b.length := by omega
  clear hlen
  have HS0 := Lib.hid (sizef_any A n c b w.heap.size w hl (Nat.le_refl _) hn hc)
  have hsz0 := Crc.size_bound b
  unfold maxLen at hc
  go_enter Try.func49, Try.ntmps49
  go_wp2_with fail
  refine HS0.out.mono ?_
  rintro e w1 ⟨rfl, hb1⟩
  clear HS0
  go_wp2_with fail
  go_loopw [4, 5, 6] (fun v a s wr => ∃ k : Nat, ∃ acc : List (List UInt8), k ≤ n ∧ a = .int .i64 k ∧ s = .int .i64 (Crc.size (b.drop k) : Nat) ∧ acc ++ scan (b.drop k) = scan b ∧ k + scanLen (b.drop k) = scanLen b ∧ OwnR wr w.heap.size v acc ∧ Below w.heap.size w wr) (fun _ a _ _ => n - (intOf a).toNat)
  case atStart => exact ⟨0, [], by omega, rfl, by simp, by simp, by simp, OwnR.nil_ _ _, hb1⟩
  case round =>
    obtain ⟨k, acc, hk, rfl, rfl, hacc, hsum, hown, hb⟩ := hrel
    clear hb1
    have HACC := Lib.hid hacc
    have HSUM := Lib.hid hsum
    clear hacc hsum
    have hsb := Crc.size_bound (b.drop k)
    have hsl := Crc.size_le (b.drop k)
    rw [List.length_drop] at hsl
    have hzb := hb.size
    by_cases h0 : Crc.size (b.drop k) = 0
    · have HE : Hid (acc = scan b) := by
        have := HACC.out
        rw [(scan_none _ h0).1, List.append_nil] at this
        exact this
      have HK : Hid (k = scanLen b) := by
        have := HSUM.out
        rw [(scan_none _ h0).2] at this
        exact this
      have hz : ((Crc.size (b.drop k) : Nat) : Int) = 0 := by omega
      rw [hz]
      clear h0 hsb hsl hz
      go_wp2
      go_ret2
      exact ⟨u4, by rw [HK.out]; rfl, by rw [← HE.out]; exact hown, hb⟩
    · have hge := Crc.size_ge _ h0
      obtain ⟨s1, s2⟩ := scan_some _ h0
      rw [List.drop_drop] at s1 s2
      have hdp := (hl.below hb).drop k c hn
      rw [if_neg (by omega)] at hdp
      obtain ⟨k2, hk2⟩ : ∃ k2, k + Crc.size (b.drop k) = k2 := ⟨_, rfl⟩
      rw [hk2] at s1 s2
      have HA2 : Hid ((acc ++ [Crc.body (b.drop k)]) ++ scan (b.drop k2) = scan b) := by
        show _ = _
        rw [List.append_assoc, List.singleton_append, ← s1]
        exact HACC.out
      have HS2 : Hid (k2 + scanLen (b.drop k2) = scanLen b) := by
        show _ = _
        have := HSUM.out
        omega
      have HBD : Hid (Crc.body (b.drop k) = ((b.drop k).take (Crc.size (b.drop k) - 4)).drop 4) := rfl
      clear s1 s2 h0 HACC HSUM
      have HW := fun W (hW : Below wr.heap.size wr W) => body_any (A.map (·.add k)) (n - k) (c - k) (Crc.size (b.drop k)) (b.drop k) w.heap.size W (hdp.below (hW.mono hzb)) (Nat.le_trans hzb hW.size) (by omega) (by unfold maxLen; omega) hge (by omega) (by omega)
      have HBODY := Lib.hid (HW wr (Below.refl _ _))
      rw [← HBD.out] at HBODY
      clear HW HBD
      have hsz2 := fun W (hW : Below w.heap.size w W) => sizef_any (if c = k2 then A else A.map (·.add k2)) (n - k2) (c - k2) (b.drop k2) w.heap.size W ((hl.below hW).drop k2 c hn) hW.size (by omega) (by unfold maxLen; omega)
      have HSIZE := Lib.hid hsz2
      clear hsz2
      generalize hz : Crc.size (b.drop k) = z at *
      have HZ := Lib.hid hz
      clear hz
      generalize Crc.body (b.drop k) = bd at *
      have hk2i : (k : Int) + (z : Int) = (k2 : Int) := by omega
      have hk2n : k2 ≤ n := by omega
      have hk2k : k < k2 := by omega
      clear hk2
      have hck : ¬ c = k := by omega
      have hkc : k ≤ c := by omega
      have hkn : k ≤ n := by omega
      have hk2c : k2 ≤ c := by omega
      obtain ⟨vs, hown1, hrow1⟩ := hown.cells
      have HLT := Lib.hid hown.lt
      have HR := Lib.hid hrow1
      have HO := Lib.hid hown1
      clear hown hown1 hrow1
      have hal : acc.length ≤ 1099511627776 := by
        have h1 := congrArg List.length HA2.out
        have h2 := scan_len8 _ b (Nat.le_refl _)
        simp only [List.length_append] at h1
        omega
      go_wp2_with fail
      refine HBODY.out.mono ?_
      rintro e w3 ⟨v3, rfl, hown3, hb3⟩
      obtain ⟨A3, c3, rfl, hc3, hm3, hbs3, hlt3, _⟩ := hown3.form
      have HO3 : Hid (w3.ownsRow w.heap.size 23 1 u4 acc.length vs) := by
        refine ⟨HO.out.1, ?_⟩
        rcases HO.out.2 with h2 | ⟨g, cap, cur, hv, hg, hh, r⟩
        · exact .inl h2
        · have hgl : g < wr.heap.size := (Array.getElem?_eq_some_iff.1 hh).1
          exact .inr ⟨g, cap, cur, hv, hg, (hb3.block g hgl).trans hh, r⟩
      have hz3 := hb3.size
      go_wp2_with (at_builtin; refine wpList_append_src _ rfl (.tmp 15) (.tmp 21) 24 rfl w.heap.size 23 i0 _ 24 Try.underlying24 hi0 hz0 hz1 hz2 rfl _ acc.length vs rfl (HO3.out.alloc _) (w3.heap.size + 1) (some ⟨w3.heap.size, 0, none⟩) 1 1 _ rfl rfl (Lies.of_new _ _ _) ?h1 ?h2 ?h3 ?h4 ?_)
      case h1 => rfl
      case h2 => unfold maxLen; omega
      case h3 => omega
      case h4 => simp; omega
      intro v4 w4 hown4 hg4 hat4
      have hba : Below w3.heap.size w3 (w3.alloc (.cells #[.slice A3 bd.length c3] 23)) := (Below.refl _ _).alloc (Nat.le_refl _) _
      have hne : ∀ p, A3 = some p → bd ≠ [] → some p.block ≠ u4.ownBlock := by
        intro p hp _ he
        have h1 := (hlt3 p.block (by rw [hp]; rfl)).1
        have h2 := (HLT.out p.block he.symm).2
        omega
      have R : OwnR w4 w.heap.size v4 (acc ++ [bd]) := OwnR.push (HO3.out.alloc _) (rows_below hba (rows_below hb3 HR.out)) ((hbs3.below hba).wider (by simp)) hc3 hm3 hne hown4 hg4 (by simpa using hat4)
      have hb4 : Below w.heap.size w w4 := ((hb.trans (hb3.mono hzb)).alloc (by omega) _).trans ((Below.refl _ _).grown hg4 (by simp; omega) (fun k hk => (HLT.out k hk).1))
      have HS4 := Lib.hid (HSIZE.out w4 hb4)
      clear hown4 hg4 hat4 HO3 HR HLT HO hne hba hbs3 hown3 hlt3 hb hb3 HBODY HSIZE
      by_cases hck2 : c = k2
      · rw [if_pos hck2] at HS4
        subst hck2
        have e0 : n - c = 0 := by omega
        rw [e0, Nat.sub_self] at HS4
        clear e0
        go_wp2_with fail
        refine HS4.out.mono ?_
        rintro e w5 ⟨rfl, hb5⟩
        have hb6 := hb4.trans (hb5.mono hb4.size)
        have R5 := R.below hb5 (Nat.le_refl _)
        clear HS4 R hb4 hb5
        go_wp2_with fail
        go_roundw
        case rel => exact ⟨c, acc ++ [bd], by omega, by go_num, rfl, HA2.out, HS2.out, R5, hb6⟩
        case measure => simp [intOf]; omega
      · rw [if_neg hck2] at HS4
        go_wp2_with fail
        refine HS4.out.mono ?_
        rintro e w5 ⟨rfl, hb5⟩
        have hb6 := hb4.trans (hb5.mono hb4.size)
        have R5 := R.below hb5 (Nat.le_refl _)
        clear HS4 R hb4 hb5
        go_wp2_with fail
        go_roundw
        case rel => exact ⟨k2, acc ++ [bd], by omega, by go_num, rfl, HA2.out, HS2.out, R5, hb6⟩
        case measure => simp [intOf]; omega
end Go.Proofs.Ythkkjefcdedlfaa
