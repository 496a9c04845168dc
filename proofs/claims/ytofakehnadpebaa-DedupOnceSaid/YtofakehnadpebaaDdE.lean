/-
  What (*dedup.Table).Take does.
-/
import Derived.Test.YtofakehnadpebaaDdD
namespace Go.Proofs.Ytofakehnadpebaa
open Go.RowKit Go.Maps
set_option linter.unusedVariables false
set_option linter.unusedSimpArgs false

def takeE (most next : Int) (L : List Rw) (b : Bat) : Int := if (jdg most L b).2.2 ≠ 0 then (jdg most L b).2.2 else if (jdg most L b).1 = true then 4 else if b.base < next then 8 else 0
def takeN (most next : Int) (L : List Rw) (b : Bat) : Int := if takeE most next L b = 0 then nextI b else next
def takeL (most next : Int) (L : List Rw) (b : Bat) : List Rw := if takeE most next L b = 0 ∧ b.pid ≠ 0 then putL Rw.pid (afterR (knownR L b.pid) b) L else L
/-- what Take answers, and leaves -/
def TakeP (w : World) (g m : Nat) (most next : Int) (L : List Rw) (b : Bat) (e : Ending) (w' : World) : Prop :=
  e = .returned (.int .i64 (takeE most next L b)) ∧ Tb w' g m most (takeN most next L b) (takeL most next L b) ∧ Two g m w w'
theorem take_no {w w' : World} {g m : Nat} {most next : Int} {L : List Rw} {b : Bat} (hT : Tb w g m most next L) (hb : Below w.heap.size w w') (V : Int) (h : takeE most next L b = V) (hV : V ≠ 0) : TakeP w g m most next L b (.returned (.int .i64 V)) w' := by
  refine ⟨by rw [h], ?_, Two.of_below hb⟩
  unfold takeN takeL
  rw [if_neg (by rw [h]; exact hV), if_neg (by rw [h]; exact fun e => hV e.1)]
  exact hT.below hb
theorem jdg_ok {most : Int} {L : List Rw} {b : Bat} (h : (jdg most L b).2.2 = 0) : validE b = 0 := by
  by_cases hV : validE b = 0
  · exact hV
  · unfold jdg at h
    rw [if_neg hV] at h
    exact h

theorem Two.of_second {g d : Nat} {w w' : World} (h : w.grownBy w' (some d)) : Two g d w w' := ⟨h.os, h.tape, h.output, h.size, fun i hi _ h2 => h.block i hi (fun e => h2 (by injection e))⟩
theorem Tb.setNext {w : World} {g m : Nat} {most next : Int} {L : List Rw} (h : Tb w g m most next L) (n : Int) : Tb (w.setCell ⟨g, 1, none⟩ (.int .i64 n)) g m most n L :=
  ⟨by rw [heap_setCell_same w g 1 _ _ _ h.t]; rfl, h.mi.kept ((grown_set w g 1 _).block m h.mi.lt (fun e => by injection e with e; exact h.ne e.symm)), h.ok⟩
theorem Tb.put {w w' : World} {g m : Nat} {most next : Int} {L L' : List Rw} (h : Tb w g m most next L) (hm : Mi Rw.pid Rw.val Try.prog 2 w' m L') (ht : w.mapTurned w' m) (hk : ∀ r ∈ L', r.ok) : Tb w' g m most next L' :=
  ⟨(ht.grown.block g h.lg (fun e => by injection e with e; exact h.ne e)).trans h.t, hm, hk⟩
theorem take_yes {w w' : World} {g m : Nat} {most next : Int} {L : List Rw} {b : Bat} (N : Int) (L' : List Rw) (h : takeE most next L b = 0) (hN : nextI b = N) (hL : (if b.pid ≠ 0 then putL Rw.pid (afterR (knownR L b.pid) b) L else L) = L') (hT : Tb w' g m most N L') (h2 : Two g m w w') : TakeP w g m most next L b (.returned (.int .i64 0)) w' := by
  refine ⟨by rw [h], ?_, h2⟩
  unfold takeN takeL
  rw [if_pos h, hN]
  simp only [h, true_and]
  rw [hL]
  exact hT
set_option maxRecDepth 100000 in
set_option maxHeartbeats 8000000 in
theorem take_any (b : Bat) (A : Option Addr) (c B g m : Nat) (most next : Int) (L : List Rw) (w : World) (hT : Tb w g m most next L) (hL : Rcs w B A b.L.length b.L) (hB : B ≤ w.heap.size) (hl : b.L.length ≤ maxLen) (hn1 : -9223372036854775808 ≤ next) (hn2 : next ≤ 9223372036854775807) (hll : L.length < 4294967296) (hbo : i64_ b.base) :
    Calls Try.prog 22 #[.pointer (some ⟨g, 0, none⟩), .agg (b.cells A c)] w fun e w' => TakeP w g m most next L b e w' := by
  have HJ : Hid (∀ W, Below w.heap.size w W → Calls Try.prog 20 #[.pointer (some ⟨g, 0, none⟩), .agg (b.cells A c)] W fun e w' => e = .returned (jdgV (jdg most L b)) ∧ Below W.heap.size W w') := fun W h => judge_any b A c B g m most next L W (hT.below h) (hL.below (h.mono hB)) (Nat.le_trans hB h.size) hl
  have HNX : Hid (∀ W, Below w.heap.size w W → Calls Try.prog 19 #[.agg (b.cells A c)] W fun e w' => e = .returned (.int .i64 (nextI b)) ∧ Below W.heap.size W w') := fun W h => next_any b A c B W (hL.below (h.mono hB)) (Nat.le_trans hB h.size) hl
  have HNO := Lib.hid (fun w' hb => take_no (w' := w') (b := b) hT hb)
  have HE : Hid (takeE most next L b = if (jdg most L b).2.2 ≠ 0 then (jdg most L b).2.2 else if (jdg most L b).1 = true then 4 else if b.base < next then 8 else 0) := rfl
  have HV : Hid ((jdg most L b).2.2 = 0 → validE b = 0) := jdg_ok
  have HTT := Lib.hid hT
  have hgl := hT.lg
  have hs0 := (Below.refl w.heap.size w).alloc (Nat.le_refl _) (.cells (b.cells A c) 26)
  have hk0 := heap_alloc_new w (.cells (b.cells A c) 26)
  have HS0 := Lib.hid hs0
  have HK0 := Lib.hid hk0
  obtain ⟨TE, hTE⟩ : ∃ TE, takeE most next L b = TE := ⟨_, rfl⟩
  have HTE := Lib.hid hTE
  have hV0 : ∀ x : Bool × Int × Int, jdgV x = .tuple #[.agg #[.bool x.1, .int .i64 x.2.1], .int .i64 x.2.2] := fun _ => rfl
  rw [hV0] at HJ
  clear hV0 hTE hs0 hk0 hT hL
  generalize jdg most L b = X at *
  obtain ⟨ja, jb, je⟩ := X
  have HBB : Hid (b = b) := rfl
  by_cases hje : je = 0
  · subst hje
    cases ja with
    | true =>
      have h4 : TE = 4 := by rw [← HTE.out, HE.out]; simp
      have H4 := Lib.hid h4
      clear h4
      obtain ⟨base, pid, epoch, seq, kind, time, l⟩ := b
      unfold Bat.cells at *
      simp only at *
      go_enter Try.func22, Try.ntmps22
      go_wp2_with (go_at_call 20; (with_reducible refine (HJ.out _ HS0.out).mono ?_); rintro e w1 ⟨rfl, hb⟩)
      go_ret
      refine HNO.out _ ?_ 4 (HTE.out.trans H4.out) (by decide)
      exact (HS0.out.trans (hb.mono (by simp))).alloc (by have := hb.size; simp at this; omega) _
    | false =>
      by_cases hlt : b.base < next
      · have h4 : TE = 8 := by rw [← HTE.out, HE.out]; simp [hlt]
        have H4 := Lib.hid h4
        clear h4
        have hc1 : w.cell? ⟨g, 1, none⟩ = some (.int .i64 next) := cell_of_row w g 1 _ _ _ HTT.out.t
        obtain ⟨base, pid, epoch, seq, kind, time, l⟩ := b
        unfold Bat.cells at *
        simp only at *
        have hlt' : decide (base < next) = true := by simpa using hlt
        clear hlt
        go_enter Try.func22, Try.ntmps22
        go_wp2_with (go_at_call 20; (with_reducible refine (HJ.out _ HS0.out).mono ?_); rintro e w1 ⟨rfl, hb⟩; obtain ⟨hc, hf⟩ := bcell hb; have hz := hb.size; simp only [World.size_alloc] at hz; have hz1 : w.heap.size < w1.heap.size := (by omega); have hz2 : g < w1.heap.size := (by omega); have hz3 : g < w.heap.size + 1 := (by omega))
        go_quiet (fail)
        go_wp2_with fail
        go_ret
        refine HNO.out _ ?_ 8 (HTE.out.trans H4.out) (by decide)
        exact below_draws ((HS0.out.trans (hb.mono (by simp))).alloc (by omega) _) _
      · have h4 : TE = 0 := by rw [← HTE.out, HE.out]; simp [hlt]
        have hF : Fine b := (fine_iff b).1 (HV.out rfl)
        have HYE := Lib.hid (fun w' N L' => take_yes (w := w) (w' := w') (g := g) (m := m) (b := b) N L' (HTE.out.trans h4))
        have hc1 : w.cell? ⟨g, 1, none⟩ = some (.int .i64 next) := cell_of_row w g 1 _ _ _ HTT.out.t
        obtain ⟨NX, hNX⟩ : ∃ NX, nextI b = NX := ⟨_, rfl⟩
        have HNE := Lib.hid hNX
        have hrk : b.pid ≠ 0 → (knownR L b.pid).ok := fun h => knownR_ok HTT.out.ok (by have := hF.p1; omega) hF.p2
        have HAK : Hid (b.pid ≠ 0 → (afterR (knownR L b.pid) b).ok) := fun h => afterR_ok (hrk h) hF (by have := hF.p1; omega)
        have HAP : Hid ((afterR (knownR L b.pid) b).pid = b.pid) := afterR_pid _ _
        have HAF : Hid (∀ W, Calls Try.prog 67 #[(knownR L b.pid).val, .agg (b.cells A c)] W fun e w' => e = .returned (afterR (knownR L b.pid) b).val ∧ Below W.heap.size W w') := fun W => after_any _ b A c W (by have := hF.e1; omega) (by have := hF.e2; omega)
        have HKN : Hid (∀ W, Tb W g m most NX L → Calls Try.prog 61 #[.pointer (some ⟨g, 0, none⟩), .int .i64 b.pid] W fun e w' => e = .returned (.tuple #[(knownR L b.pid).val, .bool (getL Rw.pid L b.pid).isSome]) ∧ Below W.heap.size W w') := fun W h => known_any g m most NX b.pid L W h (by have := hF.p1; omega) (by have := hF.p2; omega)
        rw [hNX] at HNX
        have hpw : (Lit.int .i64 b.pid).wf = true := wf64 (by have := hF.p1; omega) (by have := hF.p2; omega)
        generalize hKR : knownR L b.pid = r at *
        generalize hAR : afterR r b = ar at *
        have HKR := Lib.hid hKR
        have HAR := Lib.hid hAR
        generalize (getL Rw.pid L b.pid).isSome = th at *
        obtain ⟨rp, re, rs, rc, rb, rf, rt⟩ := r
        have HV1 : Hid (Rw.val ar = Rw.val ar) := rfl
        obtain ⟨av, hav⟩ : ∃ av, ar.val = av := ⟨_, rfl⟩
        have HAV := Lib.hid hav
        rw [hav] at HAF
        clear h4 hF hNX hrk hKR hAR hav HV1
        obtain ⟨base, pid, epoch, seq, kind, time, l⟩ := b
        unfold Bat.cells Rw.val Rw.cells at *
        simp only at *
        have hlt' : decide (base < next) = false := by simpa using hlt
        clear hlt
        have hgp : g ≠ w.heap.size := by omega
        go_enter Try.func22, Try.ntmps22
        go_wp2_with (go_at_call 20; (with_reducible refine (HJ.out _ HS0.out).mono ?_); rintro e w1 ⟨rfl, hb⟩; obtain ⟨hc, hf⟩ := bcell hb; have hz := hb.size; simp only [World.size_alloc] at hz; have hz1 : w.heap.size < w1.heap.size := (by omega); have hz2 : g < w1.heap.size := (by omega); have hz3 : g < w.heap.size + 1 := (by omega); have HW1 := Lib.hid ((hb.block w.heap.size (by simp)).trans HK0.out); have HB1 := Lib.hid (HS0.out.trans (hb.mono (by simp))))
        go_quiet (fail)
        go_upto_region 9 with (go_at_call 19; (with_reducible refine (HNX.out _ (below_draws (HB1.out.alloc (by omega) _) _)).mono ?_); rintro e w4 ⟨rfl, hb4⟩; have HB4 := Lib.hid ((below_draws (HB1.out.alloc (by omega) (.cells #[.bool false, .int .i64 jb] 48)) _).trans (hb4.mono (by simp [World.drewN]; omega))); have HT4 := Lib.hid (HTT.out.below HB4.out); have HK4 := Lib.hid ((hb4.block w.heap.size (by simp [World.drewN]; omega)).trans (((below_draws ((Below.refl w1.heap.size w1).alloc (Nat.le_refl _) (.cells #[.bool false, .int .i64 jb] 48)) _).block w.heap.size (by omega)).trans HW1.out)); have t1 := cell_of_row w4 g 1 _ _ _ HT4.out.t; have tf := frozen_of_row w4 g 1 _ _ HT4.out.t)
        have HT5 := Lib.hid (HT4.out.setNext NX)
        have HK5 := Lib.hid (((grown_set w4 g 1 (.int .i64 NX)).block w.heap.size (by have := (Array.getElem?_eq_some_iff.1 HK4.out).1; omega) (fun e => by injection e with e; omega)).trans HK4.out)
        have H25 : Hid (Two g m w (w4.setCell ⟨g, 1, none⟩ (.int .i64 NX))) := by
          have k := grown_set w4 g 1 (.int .i64 NX)
          exact (Two.of_below HB4.out).trans (Two.of_grown k)
        generalize w4.setCell ⟨g, 1, none⟩ (.int .i64 NX) = w5 at *
        clear t1 tf hc hf hz hz1 hz2 hz3 HB4 HT4 HK4 HB1 HW1 hb hc1
        obtain ⟨⟨y0, y1, y2, y3, y4, y5, y6⟩, _⟩ := seven HK5.out
        by_cases hp0 : pid = 0
        · subst hp0
          go_wp2_with fail
          go_ret
          exact HYE.out _ NX L HNE.out (by simp) HT5.out H25.out
        · have hp1 : (pid != 0) = true := by simp [hp0]
          have HP0 := Lib.hid hp0
          have hpl := (Array.getElem?_eq_some_iff.1 HK5.out).1
          clear hp0
          go_upto_region 11 with (go_at_call 61; (with_reducible refine (HKN.out _ HT5.out).mono ?_); rintro e w6 ⟨rfl, hb6⟩)
          have HB7 := Lib.hid (hb6.alloc hb6.size (.cells #[.int .i64 rp, .int .i64 re, .int .i64 rs, .int .i64 rc, .int .i64 rb, .int .i64 rf, .int .i64 rt] 52))
          have HQ7 := Lib.hid (heap_alloc_new w6 (.cells #[.int .i64 rp, .int .i64 re, .int .i64 rs, .int .i64 rc, .int .i64 rb, .int .i64 rf, .int .i64 rt] 52))
          have HT7 := Lib.hid (HT5.out.below HB7.out)
          have HK7 := Lib.hid ((HB7.out.block w.heap.size hpl).trans HK5.out)
          generalize w6.alloc (.cells #[.int .i64 rp, .int .i64 re, .int .i64 rs, .int .i64 rc, .int .i64 rb, .int .i64 rf, .int .i64 rt] 52) = w7 at *
          clear y0 y1 y2 y3 y4 y5 y6
          obtain ⟨⟨y0, y1, y2, y3, y4, y5, y6⟩, _⟩ := seven HK7.out
          obtain ⟨⟨q0, q1, q2, q3, q4, q5, q6⟩, _⟩ := seven HQ7.out
          have t2 := cell_of_row w7 g 2 _ _ _ HT7.out.t
          have HST : Hid (∀ W, Tb W g m most NX L → ∃ w', (Instr.mapUpdate 89 (.map (some m)) (.int .i64 pid) av).run Try.prog W = .ok () w' ∧ Mi Rw.pid Rw.val Try.prog 2 w' m (putL Rw.pid ar L) ∧ W.mapTurned w' m) := fun W h => by
            have k := h.mi.store (e := 52) law64 Try.underlying89 Try.underlying2 hll ar (by rw [HAP.out]; exact hpw)
            have e : Rw.val ar = av := HAV.out
            rw [HAP.out, e] at k
            exact k
          have HOK : Hid (∀ r ∈ putL Rw.pid ar L, r.ok) := fun r hr => by
            rcases (putL_mem Rw.pid ar L r).1 hr with rfl | ⟨h1, _⟩
            · exact HAK.out HP0.out
            · exact HTT.out.ok r h1
          have hml : m < w.heap.size := HTT.out.mi.lt
          have hq6 : w.heap.size < w6.heap.size := Nat.lt_of_lt_of_le hpl hb6.size
          go_region_held3 (fun w' => w'.cell? ⟨g, 2, none⟩ = some (.map (some m)) ∧ w'.cell? ⟨w.heap.size, 0, none⟩ = some (.int .i64 base) ∧ w'.cell? ⟨w.heap.size, 1, none⟩ = some (.int .i64 pid) ∧ w'.cell? ⟨w.heap.size, 2, none⟩ = some (.int .i64 epoch) ∧ w'.cell? ⟨w.heap.size, 3, none⟩ = some (.int .i64 seq) ∧ w'.cell? ⟨w.heap.size, 4, none⟩ = some (.int .i64 kind) ∧ w'.cell? ⟨w.heap.size, 5, none⟩ = some (.int .i64 time) ∧ w'.cell? ⟨w.heap.size, 6, none⟩ = some (.slice A l.length c) ∧ w'.cell? ⟨w6.heap.size, 0, none⟩ = some (.int .i64 rp) ∧ w'.cell? ⟨w6.heap.size, 1, none⟩ = some (.int .i64 re) ∧ w'.cell? ⟨w6.heap.size, 2, none⟩ = some (.int .i64 rs) ∧ w'.cell? ⟨w6.heap.size, 3, none⟩ = some (.int .i64 rc) ∧ w'.cell? ⟨w6.heap.size, 4, none⟩ = some (.int .i64 rb) ∧ w'.cell? ⟨w6.heap.size, 5, none⟩ = some (.int .i64 rf) ∧ w'.cell? ⟨w6.heap.size, 6, none⟩ = some (.int .i64 rt)) (first | exact ⟨t2, y0, y1, y2, y3, y4, y5, y6, q0, q1, q2, q3, q4, q5, q6⟩ | exact ⟨t9, a0, a1, a2, a3, a4, a5, a6, b0, b1, b2, b3, b4, b5, b6⟩ | exact ⟨t8, z0, z1, z2, z3, z4, z5, z6, u0, u1, u2, u3, u4, u5, u6⟩ | go_keep)
            (first
              | (go_at_call 67; (with_reducible refine (HAF.out _).mono ?_); rintro e w8 ⟨rfl, hb8⟩; have hT8 : Tb w8 g m most NX L := HT7.out.kept (hb8.block g HT7.out.lg) (hb8.block m HT7.out.mi.lt); have hK8 := (hb8.block w.heap.size (Array.getElem?_eq_some_iff.1 HK7.out).1).trans HK7.out; have hQ8 := (hb8.block w6.heap.size (Array.getElem?_eq_some_iff.1 HQ7.out).1).trans HQ7.out; obtain ⟨⟨z0, z1, z2, z3, z4, z5, z6⟩, _⟩ := seven hK8; obtain ⟨⟨u0, u1, u2, u3, u4, u5, u6⟩, _⟩ := seven hQ8; have t8 := cell_of_row w8 g 2 _ _ _ hT8.t; obtain ⟨w9, hrun, hmi, hturn⟩ := HST.out w8 hT8; have hT9 := hT8.put hmi hturn (HOK.out); have hK9 := (hturn.grown.block w.heap.size (Array.getElem?_eq_some_iff.1 hK8).1 (fun e => by injection e with e; omega)).trans hK8; have hQ9 := (hturn.grown.block w6.heap.size (Array.getElem?_eq_some_iff.1 hQ8).1 (fun e => by injection e with e; omega)).trans hQ8; obtain ⟨⟨a0, a1, a2, a3, a4, a5, a6⟩, _⟩ := seven hK9; obtain ⟨⟨b0, b1, b2, b3, b4, b5, b6⟩, _⟩ := seven hQ9; have t9 := cell_of_row w9 g 2 _ _ _ hT9.t; have H29 := Lib.hid (((H25.out.trans (Two.of_below HB7.out)).trans (⟨hb8.os, hb8.tape, hb8.output, hb8.size, fun i hi _ _ => hb8.block i hi⟩ : Two g m w7 w8)).trans (Two.of_second hturn.grown)); have HT9 := Lib.hid hT9))
          all_goals
            go_wp2_with fail
            go_ret
            exact HYE.out _ NX _ HNE.out (by rw [if_pos HP0.out]) HT9.out H29.out
  · have h4 : TE = je := by rw [← HTE.out, HE.out]; simp [hje]
    have H4 := Lib.hid h4
    have hje' : (je != 0) = true := by simp [hje]
    have HJE := Lib.hid hje
    clear h4 hje
    obtain ⟨base, pid, epoch, seq, kind, time, l⟩ := b
    unfold Bat.cells at *
    simp only at *
    go_enter Try.func22, Try.ntmps22
    go_wp2_with (go_at_call 20; (with_reducible refine (HJ.out _ HS0.out).mono ?_); rintro e w1 ⟨rfl, hb⟩)
    go_ret
    refine HNO.out _ ?_ je (HTE.out.trans H4.out) HJE.out
    exact (HS0.out.trans (hb.mono (by simp))).alloc (by have := hb.size; simp at this; omega) _
end Go.Proofs.Ytofakehnadpebaa
