/-
  What the document's Reader's Ints and Texts do.
-/
import Derived.Test.YtgbdgpacnpeahaaWrH
namespace Go.Proofs.Ytgbdgpacnpeahaa
open Go.RowKit Go.Lib Go.Sort
set_option linter.unusedVariables false
set_option linter.unusedSimpArgs false

def manyS {α : Type} (f : Nat → α × Nat × Nat) : Nat → Nat → Nat → List α × Nat × Nat
  | 0, p, e => ([], p, e)
  | n + 1, p, e => if e ≠ 0 then ([], p, e) else ((f p).1 :: (manyS f n (f p).2.1 (f p).2.2).1, (manyS f n (f p).2.1 (f p).2.2).2)
theorem manyS_end {α : Type} (f : Nat → α × Nat × Nat) (n p e : Nat) (h : n = 0 ∨ e ≠ 0) : manyS f n p e = ([], p, e) := by
  cases n with
  | zero => rfl
  | succ n =>
    rcases h with h | h
    · cases h
    · unfold manyS; rw [if_pos h]
theorem manyS_step {α : Type} (f : Nat → α × Nat × Nat) (n p : Nat) : manyS f (n + 1) p 0 = ((f p).1 :: (manyS f n (f p).2.1 (f p).2.2).1, (manyS f n (f p).2.1 (f p).2.2).2) := by
  show (if (0 : Nat) ≠ 0 then _ else _) = _
  rw [if_neg (by simp)]
/-- a list: what was read, where the reader then stands, its error -/
def listR {α : Type} (f : Nat → α × Nat × Nat) (n p0 e0 p : Nat) : List α × Nat × Nat := if (manyS f n p0 e0).2.2 ≠ 0 then ([], p, (manyS f n p0 e0).2.2) else manyS f n p0 e0
def intsR (l : List UInt8) (p err : Nat) (count : Int) : List Int × Nat × Nat := listR (fun q => iR l q 0) (uR l p err).1 (uR l p err).2.1 (mE l p err count) p
def textsR (l : List UInt8) (p err : Nat) (count most : Int) : List (List UInt8) × Nat × Nat := listR (fun q => textR l q 0 most) (uR l p err).1 (uR l p err).2.1 (mE l p err count) p
theorem uR_on {l : List UInt8} {p : Nat} (h : (uR l p 0).2.2 = 0) : p < (uR l p 0).2.1 := by
  unfold uR at *
  rw [if_pos rfl] at *
  by_cases hz : (numP (l.drop p)).2 = 0
  · rw [if_pos hz] at h; cases h
  · show p < p + _; omega
theorem iR_on {l : List UInt8} {p : Nat} (h : (iR l p 0).2.2 = 0) : p < (iR l p 0).2.1 := uR_on h
theorem textR_on {l : List UInt8} {p : Nat} {most : Int} (h : (textR l p 0 most).2.2 = 0) : p < (textR l p 0 most).2.1 := by
  unfold textR at *
  by_cases ht : textE l p 0 most ≠ 0
  · rw [if_pos ht] at h; exact absurd h ht
  · rw [if_neg ht] at *
    have h1 : textE l p 0 most = 0 := by omega
    have h2 : (uR l p 0).2.2 = 0 := by
      unfold textE at h1
      by_cases h3 : mE l p 0 most = 0
      · unfold mE at h3
        split at h3
        · cases h3
        · exact h3
      · rw [if_neg (fun q => h3 q.1)] at h1; exact absurd h1 h3
    have := uR_on h2
    show p < _ + _
    omega
theorem new_cellsW (w : World) (cs : List Value) (e : TypeId) : ∀ j u, cs[j]? = some u → (w.alloc (.cells cs.toArray e)).cell? ((⟨w.heap.size, 0, none⟩ : Addr).add j) = some u := fun j u hj => by
  obtain ⟨q, hq, _, hc⟩ := (Lies.of_new w cs.toArray e).get j u (by simpa using hj)
  injection hq with hq
  subst hq
  exact hc
theorem row_set1 {w : World} {base s n g i : Nat} {e : TypeId} {v u : Value} {xs : List Value} (h : w.ownsRow base e s v n xs) (hg : g < base) : (w.setCell ⟨g, i, none⟩ u).ownsRow base e s v n xs := by
  refine ⟨h.1, ?_⟩
  rcases h.2 with h2 | ⟨b, cap, cur, rfl, hb, hh, r⟩
  · exact .inl h2
  · exact .inr ⟨b, cap, cur, rfl, hb, (Below.heap_setCell w ⟨g, i, none⟩ u b (fun e => by have h9 : b = g := e; omega)).trans hh, r⟩
theorem row_grown {w w' : World} {base s n g : Nat} {e : TypeId} {v : Value} {xs : List Value} (h : w.ownsRow base e s v n xs) (hg : w.grownBy w' (some g)) (hb : g < base) : w'.ownsRow base e s v n xs := by
  refine ⟨h.1, ?_⟩
  rcases h.2 with h2 | ⟨b, cap, cur, rfl, hb2, hh, r⟩
  · exact .inl h2
  · exact .inr ⟨b, cap, cur, rfl, hb2, (hg.block b (Array.getElem?_eq_some_iff.1 hh).1 (fun e => by injection e with e; omega)).trans hh, r⟩
theorem row_anyW {w : World} {base s n : Nat} {e : TypeId} {v : Value} {xs : List Value} (h : w.ownsRow base e s v n xs) : ∃ A c, v = .slice A n c ∧ n ≤ c ∧ c ≤ maxLen := by
  rcases h.2 with ⟨rfl, rfl⟩ | ⟨b, cap, cur, rfl, _, _, hnc, hm, _⟩
  · exact ⟨none, 0, rfl, Nat.le_refl _, Nat.zero_le _⟩
  · exact ⟨_, cap, rfl, hnc, hm⟩
theorem int_info : (Try.prog.info? 2).map (fun i => (i.zero, i.size, i.bytes)) = some (some (.int .i64 0), 1, 8) := by kernel_rfl
theorem str_info : (Try.prog.info? 9).map (fun i => (i.zero, i.size, i.bytes)) = some (some (.string ⟨#[]⟩), 1, 16) := by kernel_rfl
def encI (v : Int) : Value := .int .i64 v
def encS (v : List UInt8) : Value := .string ⟨v.toArray⟩
def lenW : Value → Nat
  | .slice _ n _ => n
  | _ => 0

set_option maxRecDepth 100000 in
set_option maxHeartbeats 8000000 in
theorem qIs_any (g c p err : Nat) (A : Option Addr) (l : List UInt8) (count : Int) (w : World) (h : Rq w g A c l p err) (hm1 : -9223372036854775808 ≤ count) (hm2 : count ≤ 9223372036854775807) :
    Calls Try.prog 63 #[.pointer (some ⟨g, 0, none⟩), .int .i64 count] w fun e w' => ∃ v, e = .returned v ∧ w'.ownsRow w.heap.size 2 1 v (intsR l p err count).1.length ((intsR l p err count).1.map encI) ∧ Rq w' g A c l (intsR l p err count).2.1 (intsR l p err count).2.2 ∧ w.grownBy w' (some g) := by
  obtain ⟨j0, qj0, qy0, qy1, qy2⟩ := info_parts int_info
  have c1 := h.c1
  have hlt := h.lt
  have hsm := h.small
  have HPP := Lib.hid h.pos
  have HM := Lib.hid (qM_any g c p err A l count w h hm1 hm2)
  have hnl := uR_lt l p err
  have HEL : Hid (∀ q W, Rq W g A c l q 0 → Calls Try.prog 59 #[.pointer (some ⟨g, 0, none⟩)] W fun e w' => e = .returned (.int .i64 (((fun q => iR l q 0) q).1)) ∧ Rq w' g A c l ((fun q => iR l q 0) q).2.1 ((fun q => iR l q 0) q).2.2 ∧ W.grownBy w' (some g)) := fun q W hW => qI_any g c q 0 A l W hW
  have HON : Hid (∀ q, ((fun q => iR l q 0) q).2.2 = 0 → q < ((fun q => iR l q 0) q).2.1) := fun q hq => iR_on hq
  obtain ⟨X, hX⟩ : ∃ X : Ending → World → Prop, (fun e w' => ∃ v, e = .returned v ∧ w'.ownsRow w.heap.size 2 1 v (intsR l p err count).1.length ((intsR l p err count).1.map encI) ∧ Rq w' g A c l (intsR l p err count).2.1 (intsR l p err count).2.2 ∧ w.grownBy w' (some g)) = X := ⟨_, rfl⟩
  have HX : Hid (∀ v (L : List Int) q er w', intsR l p err count = (L, q, er) → w'.ownsRow w.heap.size 2 1 v L.length (L.map encI) → Rq w' g A c l q er → w.grownBy w' (some g) → X (.returned v) w') := fun v L q er w' e h0 h1 h2 => by rw [← hX, e]; exact ⟨v, rfl, h0, h1, h2⟩
  rw [hX]
  clear hX
  unfold intsR listR at HX
  generalize mE l p err count = e0 at *
  generalize (fun q => iR l q 0) = f at *
  generalize uR l p err = t at *
  obtain ⟨n, p0, e1⟩ := t
  simp only at HM hnl HX
  have HST : Hid (∀ m q, manyS f (m + 1) q 0 = ((f q).1 :: (manyS f m (f q).2.1 (f q).2.2).1, (manyS f m (f q).2.1 (f q).2.2).2)) := fun m q => manyS_step f m q
  have HEN : Hid (∀ m q e, (m = 0 ∨ e ≠ 0) → manyS f m q e = ([], q, e)) := fun m q e hq => manyS_end f m q e hq
  have HCD : Hid (∃ D : Nat → Nat → Nat → List Int × Nat × Nat, ∀ a b d, D a b d = manyS f a b d) := ⟨_, fun _ _ _ => rfl⟩
  obtain ⟨D, hD⟩ := HCD.out
  simp only [← hD] at HST HEN HX
  clear hD HCD h
  obtain ⟨F, hF⟩ : ∃ F, D n p0 e0 = F := ⟨_, rfl⟩
  have HF0 : Hid (F = ([] ++ (D (n - 0) p0 e0).1, (D (n - 0) p0 e0).2)) := by show _ = _; rw [Nat.sub_zero, hF]; rfl
  rw [hF] at HX
  clear hF
  go_enter Try.func63, Try.ntmps63
  go_upto_region 3 with (go_at_call 135; (with_reducible refine HM.out.mono ?_); rintro e w1 ⟨rfl, hr, hg⟩)
  have HR1 := Lib.hid hr
  have HG1 := Lib.hid hg
  have HB1 : Hid (w.heap.size ≤ w1.heap.size) := hg.size
  clear hr hg c1 HM
  go_wp2_with fail
  go_loopw [7, 8] (fun ov iv wr => ∃ k : Nat, k ≤ n ∧ iv = .int .u64 (k : Int) ∧ ∃ (C : List Int) (pk ek : Nat), Hid (F = (C ++ (D (n - k) pk ek).1, (D (n - k) pk ek).2)) ∧ Hid (wr.ownsRow w.heap.size 2 1 ov C.length (C.map encI)) ∧ Hid (Rq wr g A c l pk ek) ∧ Hid (ek = 0 → p0 + C.length ≤ pk) ∧ Hid (w.grownBy wr (some g))) (fun _ iv _ => n - (RowKit.intOf iv).toNat)
  case atStart => exact ⟨0, by omega, rfl, [], p0, e0, HF0.out, World.ownsRow_nil _ _ _ _, HR1.out, fun _ => by simp, HG1.out⟩
  case round =>
    obtain ⟨k, hk, rfl, C, pk, ek, HF, HO, HR, HL, HG⟩ := hrel
    obtain ⟨A2, c2, rfl, _, _⟩ := row_anyW HO.out
    have r2 := HR.out.c2
    have hzw := HG.out.size
    by_cases hgo : k < n ∧ ek = 0
    · obtain ⟨hkn, rfl⟩ := hgo
      have z1 : (((0 : Nat) : Int) == 0) = true := rfl
      have HF2 : Hid (F = ((C ++ [(f pk).1]) ++ (D (n - (k + 1)) (f pk).2.1 (f pk).2.2).1, (D (n - (k + 1)) (f pk).2.1 (f pk).2.2).2)) := by
        show _ = _
        rw [HF.out, show n - k = (n - (k + 1)) + 1 by omega, HST.out]
        simp
      have HON2 := Lib.hid (HON.out pk)
      have HEL2 := Lib.hid (HEL.out pk wr HR.out)
      have HL2 : Hid (p0 + C.length ≤ pk) := HL.out rfl
      have hpk : Hid (pk ≤ l.length) := HR.out.pos
      generalize f pk = x at *
      obtain ⟨xv, xp, xe⟩ := x
      simp only at HF2 HON2 HEL2
      have hcl : C.length ≤ 1099511627776 := by have := HL2.out; have := hpk.out; omega
      have q1 : IntKind.u64.wrap ((k : Int) + 1) = (k : Int) + 1 := by rw [IntKind.wrap_u64]; omega
      have d1 : decide ((k : Int) < (n : Int)) = true := by rw [decide_eq_true_iff]; omega
      have d2 : decide (k < n) = true := decide_eq_true hkn
      clear HF HL
      go_wp2_with (first
        | (go_at_call 59; (with_reducible refine HEL2.out.mono ?_); rintro e w2 ⟨rfl, hr2, hg2⟩; have hO2 := row_grown HO.out hg2 hlt; have hO3 := hO2.alloc (.cells #[.int .i64 (xv)] 2); have hz2 : w.heap.size ≤ w2.heap.size := Nat.le_trans hzw hg2.size)
        | (at_builtin; go_loud (refine wpList_append_own_at _ rfl (.tmp 28) (.tmp 31) 26 rfl w.heap.size 2 j0 _ 1 8 Try.underlying26 qj0 qy0 qy1 qy2 rfl (by decide) _ C.length (C.map encI) rfl hO3 ⟨w2.heap.size, 0, none⟩ 1 1 [.int .i64 (xv)] rfl rfl (new_cellsW w2 [.int .i64 (xv)] _) ?g1 ?g2 ?g3 ?g4 ?_)))
      case g1 => first | exact ⟨rfl⟩ | (intro u hu; simp at hu; rcases hu with rfl; rfl) | simp [Value.oneCell']
      case g2 => unfold maxLen; omega
      case g3 => omega
      case g4 => first | omega | (simp; omega)
      intro va w4 hown4 hg4 _ _
      have HO4 : Hid (w4.ownsRow w.heap.size 2 1 va (C ++ [xv]).length ((C ++ [xv]).map encI)) := by show World.ownsRow _ _ _ _ _ _ _; rw [List.map_append, List.length_append]; exact hown4
      have hb4 : Below w.heap.size w2 w4 := ((Below.refl _ _).alloc hz2 _).trans ((Below.refl _ _).grown hg4 (by simp; omega) (fun q hq => (World.ownsRow.lt hO3 q hq).1))
      have HR4 := Lib.hid (hr2.below hb4 hlt)
      have HG4 : Hid (w.grownBy w4 (some g)) := ⟨hb4.os.trans (hg2.os.trans HG.out.os), hb4.tape.trans (hg2.tape.trans HG.out.tape), hb4.output.trans (hg2.output.trans HG.out.output), Nat.le_trans hz2 hb4.size, fun i hi hne => (hb4.block i hi).trans ((hg2.block i (Nat.lt_of_lt_of_le hi hzw) hne).trans (HG.out.block i hi hne))⟩
      have HL4 : Hid (xe = 0 → p0 + (C ++ [xv]).length ≤ xp) := fun q => by have h8 := HON2.out q; have h9 := HL2.out; rw [List.length_append, List.length_singleton]; omega
      clear hown4 hg4 hb4 hr2 hg2 hO2 hO3 hz2
      go_wp2_with fail
      go_roundw
      case rel => exact ⟨k + 1, by omega, by go_num, C ++ [xv], xp, xe, HF2, HO4, HR4, HL4, HG4⟩
      case measure => simp [RowKit.intOf]; omega
    · have HF3 : Hid (F = (C, pk, ek)) := by
        show _ = _
        rw [HF.out, HEN.out (n - k) pk ek (by omega)]
        simp
      clear HF
      by_cases he : ek = 0
      · subst he
        have z1 : (((0 : Nat) : Int) == 0) = true := rfl
        have z2 : (((0 : Nat) : Int) != 0) = false := rfl
        have d1 : decide ((k : Int) < (n : Int)) = false := by rw [decide_eq_false_iff_not]; omega
        have d2 : decide (k < n) = false := by rw [decide_eq_false_iff_not]; omega
        have HE := Lib.hid (HX.out (.slice A2 C.length c2) C pk 0 wr (by rw [HF3.out]; rfl) HO.out HR.out HG.out)
        clear hgo
        go_wp2_with fail
        exact HE.out
      · have z1 : ((ek : Int) == 0) = false := by rw [beq_eq_false_iff_ne]; omega
        have z2 : ((ek : Int) != 0) = true := by rw [bne_iff_ne]; omega
        have r1 := HR.out.c1
        have f1 := HR.out.free 1
        have HE := Lib.hid (HX.out (.slice none 0 0) [] p ek (wr.setCell ⟨g, 1, none⟩ (.int .i64 (p : Int))) (by rw [HF3.out]; show (if ek ≠ 0 then _ else _) = _; rw [if_pos he]) (World.ownsRow_nil _ _ _ _) (HR.out.set1 p HPP.out) (grown_trans HG.out (grown_set _ _ _ _)))
        clear hgo he
        by_cases hkn : k < n
        · have d1 : decide ((k : Int) < (n : Int)) = true := by rw [decide_eq_true_iff]; omega
          have d2 : decide (k < n) = true := decide_eq_true hkn
          go_wp2_with fail
          exact HE.out
        · have d1 : decide ((k : Int) < (n : Int)) = false := by rw [decide_eq_false_iff_not]; omega
          have d2 : decide (k < n) = false := decide_eq_false hkn
          go_wp2_with fail
          exact HE.out

set_option maxRecDepth 100000 in
set_option maxHeartbeats 8000000 in
theorem qTs_any (g c p err : Nat) (A : Option Addr) (l : List UInt8) (count most : Int) (w : World) (h : Rq w g A c l p err) (hm1 : -9223372036854775808 ≤ count) (hm2 : count ≤ 9223372036854775807) (hx1 : -9223372036854775808 ≤ most) (hx2 : most ≤ 9223372036854775807) :
    Calls Try.prog 62 #[.pointer (some ⟨g, 0, none⟩), .int .i64 count, .int .i64 most] w fun e w' => ∃ v, e = .returned v ∧ w'.ownsRow w.heap.size 9 1 v (textsR l p err count most).1.length ((textsR l p err count most).1.map encS) ∧ Rq w' g A c l (textsR l p err count most).2.1 (textsR l p err count most).2.2 ∧ w.grownBy w' (some g) := by
  obtain ⟨j0, qj0, qy0, qy1, qy2⟩ := info_parts str_info
  have c1 := h.c1
  have hlt := h.lt
  have hsm := h.small
  have HPP := Lib.hid h.pos
  have HM := Lib.hid (qM_any g c p err A l count w h hm1 hm2)
  have hnl := uR_lt l p err
  have HEL : Hid (∀ q W, Rq W g A c l q 0 → Calls Try.prog 60 #[.pointer (some ⟨g, 0, none⟩), .int .i64 most] W fun e w' => e = .returned (.string ⟨(((fun q => textR l q 0 most) q).1).toArray⟩) ∧ Rq w' g A c l ((fun q => textR l q 0 most) q).2.1 ((fun q => textR l q 0 most) q).2.2 ∧ W.grownBy w' (some g)) := fun q W hW => qT_any g c q 0 A l most W hW hx1 hx2
  have HON : Hid (∀ q, ((fun q => textR l q 0 most) q).2.2 = 0 → q < ((fun q => textR l q 0 most) q).2.1) := fun q hq => textR_on hq
  obtain ⟨X, hX⟩ : ∃ X : Ending → World → Prop, (fun e w' => ∃ v, e = .returned v ∧ w'.ownsRow w.heap.size 9 1 v (textsR l p err count most).1.length ((textsR l p err count most).1.map encS) ∧ Rq w' g A c l (textsR l p err count most).2.1 (textsR l p err count most).2.2 ∧ w.grownBy w' (some g)) = X := ⟨_, rfl⟩
  have HX : Hid (∀ v (L : List (List UInt8)) q er w', textsR l p err count most = (L, q, er) → w'.ownsRow w.heap.size 9 1 v L.length (L.map encS) → Rq w' g A c l q er → w.grownBy w' (some g) → X (.returned v) w') := fun v L q er w' e h0 h1 h2 => by rw [← hX, e]; exact ⟨v, rfl, h0, h1, h2⟩
  rw [hX]
  clear hX
  unfold textsR listR at HX
  generalize mE l p err count = e0 at *
  generalize (fun q => textR l q 0 most) = f at *
  generalize uR l p err = t at *
  obtain ⟨n, p0, e1⟩ := t
  simp only at HM hnl HX
  have HST : Hid (∀ m q, manyS f (m + 1) q 0 = ((f q).1 :: (manyS f m (f q).2.1 (f q).2.2).1, (manyS f m (f q).2.1 (f q).2.2).2)) := fun m q => manyS_step f m q
  have HEN : Hid (∀ m q e, (m = 0 ∨ e ≠ 0) → manyS f m q e = ([], q, e)) := fun m q e hq => manyS_end f m q e hq
  have HCD : Hid (∃ D : Nat → Nat → Nat → List (List UInt8) × Nat × Nat, ∀ a b d, D a b d = manyS f a b d) := ⟨_, fun _ _ _ => rfl⟩
  obtain ⟨D, hD⟩ := HCD.out
  simp only [← hD] at HST HEN HX
  clear hD HCD h
  obtain ⟨F, hF⟩ : ∃ F, D n p0 e0 = F := ⟨_, rfl⟩
  have HF0 : Hid (F = ([] ++ (D (n - 0) p0 e0).1, (D (n - 0) p0 e0).2)) := by show _ = _; rw [Nat.sub_zero, hF]; rfl
  rw [hF] at HX
  clear hF
  go_enter Try.func62, Try.ntmps62
  go_upto_region 3 with (go_at_call 135; (with_reducible refine HM.out.mono ?_); rintro e w1 ⟨rfl, hr, hg⟩)
  have HR1 := Lib.hid hr
  have HG1 := Lib.hid hg
  have HB1 : Hid (w.heap.size ≤ w1.heap.size) := hg.size
  clear hr hg c1 HM
  go_wp2_with fail
  go_loopw [9, 10] (fun ov iv wr => ∃ k : Nat, k ≤ n ∧ iv = .int .u64 (k : Int) ∧ ∃ (C : List (List UInt8)) (pk ek : Nat), Hid (F = (C ++ (D (n - k) pk ek).1, (D (n - k) pk ek).2)) ∧ Hid (wr.ownsRow w.heap.size 9 1 ov C.length (C.map encS)) ∧ Hid (Rq wr g A c l pk ek) ∧ Hid (ek = 0 → p0 + C.length ≤ pk) ∧ Hid (w.grownBy wr (some g))) (fun _ iv _ => n - (RowKit.intOf iv).toNat)
  case atStart => exact ⟨0, by omega, rfl, [], p0, e0, HF0.out, World.ownsRow_nil _ _ _ _, HR1.out, fun _ => by simp, HG1.out⟩
  case round =>
    obtain ⟨k, hk, rfl, C, pk, ek, HF, HO, HR, HL, HG⟩ := hrel
    obtain ⟨A2, c2, rfl, _, _⟩ := row_anyW HO.out
    have r2 := HR.out.c2
    have hzw := HG.out.size
    by_cases hgo : k < n ∧ ek = 0
    · obtain ⟨hkn, rfl⟩ := hgo
      have z1 : (((0 : Nat) : Int) == 0) = true := rfl
      have HF2 : Hid (F = ((C ++ [(f pk).1]) ++ (D (n - (k + 1)) (f pk).2.1 (f pk).2.2).1, (D (n - (k + 1)) (f pk).2.1 (f pk).2.2).2)) := by
        show _ = _
        rw [HF.out, show n - k = (n - (k + 1)) + 1 by omega, HST.out]
        simp
      have HON2 := Lib.hid (HON.out pk)
      have HEL2 := Lib.hid (HEL.out pk wr HR.out)
      have HL2 : Hid (p0 + C.length ≤ pk) := HL.out rfl
      have hpk : Hid (pk ≤ l.length) := HR.out.pos
      generalize f pk = x at *
      obtain ⟨xv, xp, xe⟩ := x
      simp only at HF2 HON2 HEL2
      have hcl : C.length ≤ 1099511627776 := by have := HL2.out; have := hpk.out; omega
      have q1 : IntKind.u64.wrap ((k : Int) + 1) = (k : Int) + 1 := by rw [IntKind.wrap_u64]; omega
      have d1 : decide ((k : Int) < (n : Int)) = true := by rw [decide_eq_true_iff]; omega
      have d2 : decide (k < n) = true := decide_eq_true hkn
      clear HF HL
      go_wp2_with (first
        | (go_at_call 60; (with_reducible refine HEL2.out.mono ?_); rintro e w2 ⟨rfl, hr2, hg2⟩; have hO2 := row_grown HO.out hg2 hlt; have hO3 := hO2.alloc (.cells #[.string ⟨(xv).toArray⟩] 9); have hz2 : w.heap.size ≤ w2.heap.size := Nat.le_trans hzw hg2.size)
        | (at_builtin; go_loud (refine wpList_append_own_at _ rfl (.tmp 30) (.tmp 34) 25 rfl w.heap.size 9 j0 _ 1 16 Try.underlying25 qj0 qy0 qy1 qy2 rfl (by decide) _ C.length (C.map encS) rfl hO3 ⟨w2.heap.size, 0, none⟩ 1 1 [.string ⟨(xv).toArray⟩] rfl rfl (new_cellsW w2 [.string ⟨(xv).toArray⟩] _) ?g1 ?g2 ?g3 ?g4 ?_)))
      case g1 => first | exact ⟨rfl⟩ | (intro u hu; simp at hu; rcases hu with rfl; rfl) | simp [Value.oneCell']
      case g2 => unfold maxLen; omega
      case g3 => omega
      case g4 => first | omega | (simp; omega)
      intro va w4 hown4 hg4 _ _
      have HO4 : Hid (w4.ownsRow w.heap.size 9 1 va (C ++ [xv]).length ((C ++ [xv]).map encS)) := by show World.ownsRow _ _ _ _ _ _ _; rw [List.map_append, List.length_append]; exact hown4
      have hb4 : Below w.heap.size w2 w4 := ((Below.refl _ _).alloc hz2 _).trans ((Below.refl _ _).grown hg4 (by simp; omega) (fun q hq => (World.ownsRow.lt hO3 q hq).1))
      have HR4 := Lib.hid (hr2.below hb4 hlt)
      have HG4 : Hid (w.grownBy w4 (some g)) := ⟨hb4.os.trans (hg2.os.trans HG.out.os), hb4.tape.trans (hg2.tape.trans HG.out.tape), hb4.output.trans (hg2.output.trans HG.out.output), Nat.le_trans hz2 hb4.size, fun i hi hne => (hb4.block i hi).trans ((hg2.block i (Nat.lt_of_lt_of_le hi hzw) hne).trans (HG.out.block i hi hne))⟩
      have HL4 : Hid (xe = 0 → p0 + (C ++ [xv]).length ≤ xp) := fun q => by have h8 := HON2.out q; have h9 := HL2.out; rw [List.length_append, List.length_singleton]; omega
      clear hown4 hg4 hb4 hr2 hg2 hO2 hO3 hz2
      go_wp2_with fail
      go_roundw
      case rel => exact ⟨k + 1, by omega, by go_num, C ++ [xv], xp, xe, HF2, HO4, HR4, HL4, HG4⟩
      case measure => simp [RowKit.intOf]; omega
    · have HF3 : Hid (F = (C, pk, ek)) := by
        show _ = _
        rw [HF.out, HEN.out (n - k) pk ek (by omega)]
        simp
      clear HF
      by_cases he : ek = 0
      · subst he
        have z1 : (((0 : Nat) : Int) == 0) = true := rfl
        have z2 : (((0 : Nat) : Int) != 0) = false := rfl
        have d1 : decide ((k : Int) < (n : Int)) = false := by rw [decide_eq_false_iff_not]; omega
        have d2 : decide (k < n) = false := by rw [decide_eq_false_iff_not]; omega
        have HE := Lib.hid (HX.out (.slice A2 C.length c2) C pk 0 wr (by rw [HF3.out]; rfl) HO.out HR.out HG.out)
        clear hgo
        go_wp2_with fail
        exact HE.out
      · have z1 : ((ek : Int) == 0) = false := by rw [beq_eq_false_iff_ne]; omega
        have z2 : ((ek : Int) != 0) = true := by rw [bne_iff_ne]; omega
        have r1 := HR.out.c1
        have f1 := HR.out.free 1
        have HE := Lib.hid (HX.out (.slice none 0 0) [] p ek (wr.setCell ⟨g, 1, none⟩ (.int .i64 (p : Int))) (by rw [HF3.out]; show (if ek ≠ 0 then _ else _) = _; rw [if_pos he]) (World.ownsRow_nil _ _ _ _) (HR.out.set1 p HPP.out) (grown_trans HG.out (grown_set _ _ _ _)))
        clear hgo he
        by_cases hkn : k < n
        · have d1 : decide ((k : Int) < (n : Int)) = true := by rw [decide_eq_true_iff]; omega
          have d2 : decide (k < n) = true := decide_eq_true hkn
          go_wp2_with fail
          exact HE.out
        · have d1 : decide ((k : Int) < (n : Int)) = false := by rw [decide_eq_false_iff_not]; omega
          have d2 : decide (k < n) = false := decide_eq_false hkn
          go_wp2_with fail
          exact HE.out
end Go.Proofs.Ytgbdgpacnpeahaa
