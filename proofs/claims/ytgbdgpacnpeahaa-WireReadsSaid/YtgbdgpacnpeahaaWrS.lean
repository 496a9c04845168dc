/-
  What the law's both does.
-/
import Derived.Test.YtgbdgpacnpeahaaWrQ
import Derived.Deep.RegionHeld3
namespace Go.Proofs.Ytgbdgpacnpeahaa
open Go.RowKit Go.Lib Go.Sort
set_option linter.unusedVariables false
set_option linter.unusedSimpArgs false

/-- two readers that do not touch one another -/
structure Sep2 (g g2 : Nat) (A A2 : Option Addr) : Prop where
  ne : g ≠ g2
  a1 : ∀ q, A = some q → q.block ≠ g2
  a2 : ∀ q, A2 = some q → q.block ≠ g
/-- all blocks but two are as they were -/
structure G2 (g g2 : Nat) (w w' : World) : Prop where
  os : w'.os = w.os
  tape : w'.tape = w.tape
  output : w'.output = w.output
  size : w.heap.size ≤ w'.heap.size
  block : ∀ k, k < w.heap.size → k ≠ g → k ≠ g2 → w'.heap[k]? = w.heap[k]?
section
variable {w w' w'' : World} {g g2 c c2 p err : Nat} {A A2 : Option Addr} {l : List UInt8}
theorem bs_far {B : Nat} {n : Nat} (h : Bs w B A n l) (hg : w.grownBy w' (some g2)) (hA : ∀ q, A = some q → q.block ≠ g2) (hB : B ≤ w.heap.size) : Bs w' B A n l :=
  ⟨h.len, ⟨fun j u hj => by
    obtain ⟨q, e, hb, hc⟩ := h.lies.get j u hj
    exact ⟨q, e, hb, (World.cell?_of_block (a := q.add j) (by rw [add_block]; exact hg.block q.block (by omega) (fun e2 => by injection e2 with e2; exact hA q e e2))).trans hc⟩⟩⟩
theorem Rd.far (h : Rd w g A c l p err) (hs : Sep2 g g2 A A2) (hg : w.grownBy w' (some g2)) : Rd w' g A c l p err :=
  ⟨(hg.block g h.lt (fun e => by injection e with e; exact hs.ne e)).trans h.blk, h.cap, h.capm, bs_far h.bs hg hs.a1 (Nat.le_of_lt h.lt), h.pos, h.small⟩
theorem Rq.far (h : Rq w g2 A2 c2 l p err) (hs : Sep2 g g2 A A2) (hg : w.grownBy w' (some g)) : Rq w' g2 A2 c2 l p err :=
  ⟨(hg.block g2 h.lt (fun e => by injection e with e; exact hs.ne e.symm)).trans h.blk, h.cap, h.capm, bs_far h.bs hg hs.a2 (Nat.le_of_lt h.lt), h.pos, h.small⟩
theorem G2.of_below (hb : Below w.heap.size w w') : G2 g g2 w w' := ⟨hb.os, hb.tape, hb.output, hb.size, fun k hk _ _ => hb.block k hk⟩
theorem G2.of1 (hb : w.grownBy w' (some g)) : G2 g g2 w w' := ⟨hb.os, hb.tape, hb.output, hb.size, fun k hk h1 _ => hb.block k hk (fun e => by injection e with e; exact h1 e)⟩
theorem G2.of2 (hb : w.grownBy w' (some g2)) : G2 g g2 w w' := ⟨hb.os, hb.tape, hb.output, hb.size, fun k hk _ h2 => hb.block k hk (fun e => by injection e with e; exact h2 e)⟩
theorem G2.trans (h : G2 g g2 w w') (h' : G2 g g2 w' w'') : G2 g g2 w w'' := ⟨h'.os.trans h.os, h'.tape.trans h.tape, h'.output.trans h.output, Nat.le_trans h.size h'.size, fun k hk h1 h2 => (h'.block k (Nat.lt_of_lt_of_le hk h.size) h1 h2).trans (h.block k hk h1 h2)⟩
end
def BothP (w : World) (g g2 c c2 : Nat) (A A2 : Option Addr) (l : List UInt8) (e : Ending) (w' : World) : Prop := e = .returned (.bool true) ∧ ∃ p err, Rd w' g A c l p err ∧ Rq w' g2 A2 c2 l p err ∧ G2 g g2 w w'
theorem lies_row {w : World} {base n : Nat} {e : TypeId} {A : Option Addr} {c : Nat} {xs : List Value} (h : w.ownsRow base e 1 (.slice A n c) n xs) : Lies w w.heap.size A xs := Lies.of_row h
theorem many_len {α : Type} (f : Nat → α × Nat × Nat) {l : List UInt8} (hf : ∀ q, q ≤ l.length → (f q).2.1 ≤ l.length) (hon : ∀ q, (f q).2.2 = 0 → q < (f q).2.1) : ∀ n p e, p ≤ l.length → (manyS f n p e).2.2 = 0 → (manyS f n p e).1.length + p ≤ l.length
  | 0, p, e, hp, _ => by show 0 + p ≤ _; omega
  | n + 1, p, e, hp, h => by
    unfold manyS at *
    by_cases he : e ≠ 0
    · rw [if_pos he] at h; exact absurd h he
    · rw [if_neg he] at *
      have hx : (f p).2.2 = 0 := by
        by_cases h2 : (f p).2.2 = 0
        · exact h2
        · have := manyS_end f n (f p).2.1 (f p).2.2 (.inr h2)
          simp only [this] at h
          exact h
      have h3 := hon p hx
      have := many_len f hf hon n (f p).2.1 (f p).2.2 (hf p hp) h
      show ((f p).1 :: _).length + p ≤ _
      rw [List.length_cons]
      omega
theorem listR_len {α : Type} (f : Nat → α × Nat × Nat) {l : List UInt8} (hf : ∀ q, q ≤ l.length → (f q).2.1 ≤ l.length) (hon : ∀ q, (f q).2.2 = 0 → q < (f q).2.1) {n p0 e0 p : Nat} (hp : p0 ≤ l.length) : (listR f n p0 e0 p).1.length ≤ l.length := by
  unfold listR
  by_cases h : (manyS f n p0 e0).2.2 ≠ 0
  · rw [if_pos h]; exact Nat.zero_le _
  · rw [if_neg h]
    have := many_len f hf hon n p0 e0 hp (by omega)
    omega
theorem textR_in {l : List UInt8} (p err : Nat) (most : Int) (hp : p ≤ l.length) : (textR l p err most).2.1 ≤ l.length := by
  unfold textR
  by_cases ht : textE l p err most ≠ 0
  · rw [if_pos ht]; exact hp
  · rw [if_neg ht]
    have h1 : textE l p err most = 0 := by omega
    unfold textE at h1
    have h4 := (uR_in err hp).2
    by_cases h2 : mE l p err most = 0 ∧ l.length - (uR l p err).2.1 < (uR l p err).1
    · rw [if_pos h2] at h1; cases h1
    · rw [if_neg h2] at h1
      show (uR l p err).2.1 + (uR l p err).1 ≤ _
      have : ¬ l.length - (uR l p err).2.1 < (uR l p err).1 := fun q => h2 ⟨h1, q⟩
      omega
theorem intsR_len {l : List UInt8} (p err : Nat) (count : Int) (hp : p ≤ l.length) : (intsR l p err count).1.length ≤ l.length :=
  listR_len (fun q => iR l q 0) (fun q hq => (uR_in 0 hq).2) (fun q h => iR_on h) (uR_in err hp).2
theorem textsR_len {l : List UInt8} (p err : Nat) (count most : Int) (hp : p ≤ l.length) : (textsR l p err count most).1.length ≤ l.length :=
  listR_len _ (fun q hq => textR_in q 0 most hq) (fun q h => textR_on h) (uR_in err hp).2
set_option maxRecDepth 100000 in
set_option maxHeartbeats 16000000 in
theorem both_any (g g2 c c2 p err : Nat) (A A2 : Option Addr) (l : List UInt8) (kind : Int) (u : Nat) (n m : Int) (s : ByteArray) (on : Bool) (LV IV : Value) (w : World) (h : Rd w g A c l p err) (hq : Rq w g2 A2 c2 l p err) (hs : Sep2 g g2 A A2)
    (n1 : -9223372036854775808 ≤ n) (n2 : n ≤ 9223372036854775807) (m1 : -9223372036854775808 ≤ m) (m2 : m ≤ 9223372036854775807) :
    Calls Try.prog 17 #[.pointer (some ⟨g, 0, none⟩), .pointer (some ⟨g2, 0, none⟩), .agg #[.int .i64 kind, .int .u64 (u : Int), .int .i64 n, .int .i64 m, .string s, .bool on, LV, IV]] w fun e w' => BothP w g g2 c c2 A A2 l e w' := by
  obtain ⟨X, hX⟩ : ∃ X : Ending → World → Prop, (fun e w' => BothP w g g2 c c2 A A2 l e w') = X := ⟨_, rfl⟩
  have HX : Hid (∀ p err w', Rd w' g A c l p err → Rq w' g2 A2 c2 l p err → G2 g g2 w w' → X (.returned (.bool true)) w') := fun p err w' h1 h2 h3 => by rw [← hX]; exact ⟨rfl, p, err, h1, h2, h3⟩
  rw [hX]
  clear hX
  have hB5 : Below w.heap.size w (w.alloc (.cells #[.int .i64 kind, .int .u64 (u : Int), .int .i64 n, .int .i64 m, .string s, .bool on, LV, IV] 28)) := (Below.refl _ _).alloc (Nat.le_refl _) _
  have hN5 := heap_alloc_new w (.cells #[.int .i64 kind, .int .u64 (u : Int), .int .i64 n, .int .i64 m, .string s, .bool on, LV, IV] 28)
  obtain ⟨w5, hw5⟩ : ∃ w5, w.alloc (.cells #[.int .i64 kind, .int .u64 (u : Int), .int .i64 n, .int .i64 m, .string s, .bool on, LV, IV] 28) = w5 := ⟨_, rfl⟩
  rw [hw5] at hB5 hN5
  have HW5 := Lib.hid hw5
  have hl5 := (Array.getElem?_eq_some_iff.1 hN5).1
  have hga := h.lt
  have hgb := hq.lt
  have HD := Lib.hid (h.below hB5 hga)
  have HQ := Lib.hid (hq.below hB5 hgb)
  have HG5 : Hid (G2 g g2 w w5) := G2.of_below hB5
  have HS := Lib.hid hs
  have hsm := h.small
  have HPOS := Lib.hid h.pos
  have k0 : w5.cell? ⟨w.heap.size, 0, none⟩ = some (.int .i64 kind) := cell_of_row _ _ 0 _ _ _ hN5
  have HN5 := Lib.hid hN5
  have hng : w.heap.size ≠ g := by omega
  have hng2 : w.heap.size ≠ g2 := by omega
  have hg5 : g < w5.heap.size := by omega
  have hg25 : g2 < w5.heap.size := by omega
  clear hw5 hB5 hN5 h hq hs
  go_enter Try.func17, Try.ntmps17
  go_upto_region 1 with fail
  rw [HW5.out]
  by_cases hk : kind = 0
  · subst hk
    have HPC : Hid (∀ W, Rd W g A c l p err → Calls Try.prog 47 #[.pointer (some ⟨g, 0, none⟩)] W fun e w' => e = .returned (.int .u64 (((uR l p err)).1 : Int)) ∧ Rd w' g A c l (uR l p err).2.1 (uR l p err).2.2 ∧ W.grownBy w' (some g)) := fun W hW => pU_any hW
    have HQC : Hid (∀ W, Rq W g2 A2 c2 l p err → Calls Try.prog 58 #[.pointer (some ⟨g2, 0, none⟩)] W fun e w' => e = .returned (.int .u64 (((uR l p err)).1 : Int)) ∧ Rq w' g2 A2 c2 l (uR l p err).2.1 (uR l p err).2.2 ∧ W.grownBy w' (some g2)) := fun W hW => qU_any g2 c2 p err A2 l W hW
    generalize uR l p err = t at *
    obtain ⟨tv, tp, te⟩ := t
    simp only at HPC HQC
    go_wp2_with (first | (go_at_call 47; (with_reducible refine (HPC.out w5 HD.out).mono ?_); rintro e w6 ⟨rfl, hr6, hg6⟩) | (go_at_call 58; (with_reducible refine (HQC.out w6 (HQ.out.far HS.out hg6)).mono ?_); rintro e w7 ⟨rfl, hq7, hg7⟩))
    exact HX.out tp te w7 (hr6.far HS.out hg7) hq7 ((HG5.out.trans (G2.of1 hg6)).trans (G2.of2 hg7))
  · have e0 : (kind == 0) = false := by rw [beq_eq_false_iff_ne]; omega
    by_cases hk : kind = 1
    · subst hk
      have HPC : Hid (∀ W, Rd W g A c l p err → Calls Try.prog 48 #[.pointer (some ⟨g, 0, none⟩)] W fun e w' => e = .returned (.int .i64 ((iR l p err)).1) ∧ Rd w' g A c l (iR l p err).2.1 (iR l p err).2.2 ∧ W.grownBy w' (some g)) := fun W hW => pI_any hW
      have HQC : Hid (∀ W, Rq W g2 A2 c2 l p err → Calls Try.prog 59 #[.pointer (some ⟨g2, 0, none⟩)] W fun e w' => e = .returned (.int .i64 ((iR l p err)).1) ∧ Rq w' g2 A2 c2 l (iR l p err).2.1 (iR l p err).2.2 ∧ W.grownBy w' (some g2)) := fun W hW => qI_any g2 c2 p err A2 l W hW
      generalize iR l p err = t at *
      obtain ⟨tv, tp, te⟩ := t
      simp only at HPC HQC
      go_wp2_with (first | (go_at_call 48; (with_reducible refine (HPC.out w5 HD.out).mono ?_); rintro e w6 ⟨rfl, hr6, hg6⟩) | (go_at_call 59; (with_reducible refine (HQC.out w6 (HQ.out.far HS.out hg6)).mono ?_); rintro e w7 ⟨rfl, hq7, hg7⟩))
      exact HX.out tp te w7 (hr6.far HS.out hg7) hq7 ((HG5.out.trans (G2.of1 hg6)).trans (G2.of2 hg7))
    · have e1 : (kind == 1) = false := by rw [beq_eq_false_iff_ne]; omega
      by_cases hk : kind = 2
      · subst hk
        have HPC : Hid (∀ W, Rd W g A c l p err → Calls Try.prog 49 #[.pointer (some ⟨g, 0, none⟩), .int .i64 m] W fun e w' => e = .returned (.string ⟨((textR l p err m)).1.toArray⟩) ∧ Rd w' g A c l (textR l p err m).2.1 (textR l p err m).2.2 ∧ W.grownBy w' (some g)) := fun W hW => pT_any m m1 m2 hW
        have HQC : Hid (∀ W, Rq W g2 A2 c2 l p err → Calls Try.prog 60 #[.pointer (some ⟨g2, 0, none⟩), .int .i64 m] W fun e w' => e = .returned (.string ⟨((textR l p err m)).1.toArray⟩) ∧ Rq w' g2 A2 c2 l (textR l p err m).2.1 (textR l p err m).2.2 ∧ W.grownBy w' (some g2)) := fun W hW => qT_any g2 c2 p err A2 l m W hW m1 m2
        generalize textR l p err m = t at *
        obtain ⟨tv, tp, te⟩ := t
        simp only at HPC HQC
        generalize (⟨tv.toArray⟩ : ByteArray) = sv at *
        have k3 : w5.cell? ⟨w.heap.size, 3, none⟩ = some (.int .i64 m) := cell_of_row _ _ 3 _ _ _ HN5.out
        go_upto_region 7 with fail
        clear k0
        go_region_held3 (fun w' => w'.cell? ⟨w.heap.size, 3, none⟩ = some (.int .i64 m)) (first | exact k3 | exact x3 | exact y3 | go_keep)
          (first | (go_at_call 49; refine (HPC.out _ HD.out.drew).mono ?_; rintro e w6 ⟨rfl, hr6, hg6⟩; have x3 := (hg6.cell_far ⟨w.heap.size, 3, none⟩ hl5 (fun e => by injection e with e; exact hng e)).trans k3) | (go_at_call 60; refine (HQC.out w6 (HQ.out.drew.far HS.out hg6)).mono ?_; rintro e w7 ⟨rfl, hq7, hg7⟩; have y3 := (hg7.cell_far ⟨w.heap.size, 3, none⟩ (Nat.lt_of_lt_of_le hl5 hg6.size) (fun e => by injection e with e; exact hng2 e)).trans x3))
        all_goals
          have HE := Lib.hid (HX.out tp te w7 (hr6.far HS.out hg7) hq7 (((HG5.out.trans (G2.of_below ((Below.refl _ _).drew))).trans (G2.of1 hg6)).trans (G2.of2 hg7)))
          go_wp2_with fail
          exact HE.out
      · have e2 : (kind == 2) = false := by rw [beq_eq_false_iff_ne]; omega
        by_cases hk : kind = 3
        · subst hk
          have HPC : Hid (∀ W, Rd W g A c l p err → Calls Try.prog 50 #[.pointer (some ⟨g, 0, none⟩)] W fun e w' => e = .returned (.bool ((flagR l p err)).1) ∧ Rd w' g A c l (flagR l p err).2.1 (flagR l p err).2.2 ∧ W.grownBy w' (some g)) := fun W hW => pF_any hW
          have HQC : Hid (∀ W, Rq W g2 A2 c2 l p err → Calls Try.prog 61 #[.pointer (some ⟨g2, 0, none⟩)] W fun e w' => e = .returned (.bool ((flagR l p err)).1) ∧ Rq w' g2 A2 c2 l (flagR l p err).2.1 (flagR l p err).2.2 ∧ W.grownBy w' (some g2)) := fun W hW => qF_any g2 c2 p err A2 l W hW
          generalize flagR l p err = t at *
          obtain ⟨tv, tp, te⟩ := t
          simp only at HPC HQC
          go_wp2_with (first | (go_at_call 50; (with_reducible refine (HPC.out w5 HD.out).mono ?_); rintro e w6 ⟨rfl, hr6, hg6⟩) | (go_at_call 61; (with_reducible refine (HQC.out w6 (HQ.out.far HS.out hg6)).mono ?_); rintro e w7 ⟨rfl, hq7, hg7⟩))
          exact HX.out tp te w7 (hr6.far HS.out hg7) hq7 ((HG5.out.trans (G2.of1 hg6)).trans (G2.of2 hg7))
        · have e3 : (kind == 3) = false := by rw [beq_eq_false_iff_ne]; omega
          by_cases hk : kind = 4
          · subst hk
            have HPC : Hid (∀ W, Rd W g A c l p err → Calls Try.prog 52 #[.pointer (some ⟨g, 0, none⟩), .int .i64 m, .int .i64 n] W fun e w' => ∃ v, e = .returned v ∧ w'.ownsRow W.heap.size 9 1 v (textsR l p err m n).1.length ((textsR l p err m n).1.map encS) ∧ Rd w' g A c l (textsR l p err m n).2.1 (textsR l p err m n).2.2 ∧ W.grownBy w' (some g)) := fun W hW => pTs_any m n m1 m2 n1 n2 hW
            have HQC : Hid (∀ W, Rq W g2 A2 c2 l p err → Calls Try.prog 62 #[.pointer (some ⟨g2, 0, none⟩), .int .i64 m, .int .i64 n] W fun e w' => ∃ v, e = .returned v ∧ w'.ownsRow W.heap.size 9 1 v (textsR l p err m n).1.length ((textsR l p err m n).1.map encS) ∧ Rq w' g2 A2 c2 l (textsR l p err m n).2.1 (textsR l p err m n).2.2 ∧ W.grownBy w' (some g2)) := fun W hW => qTs_any g2 c2 p err A2 l m n W hW m1 m2 n1 n2
            have HLL : Hid ((textsR l p err m n).1.length ≤ 1099511627776) := by
              show _ ≤ _
              exact Nat.le_trans (textsR_len p err m n HPOS.out) hsm
            generalize textsR l p err m n = t at *
            obtain ⟨tv, tp, te⟩ := t
            simp only at HPC HQC HLL
            have HSM : Hid (∀ A A' c c' W, Lies W W.heap.size A (tv.map encS) → Lies W W.heap.size A' (tv.map encS) → Calls Try.prog 51 #[.slice A tv.length c, .slice A' tv.length c'] W fun e w' => e = .returned (.bool true) ∧ Below W.heap.size W w') := fun A A' c c' W h1 h2 => sameS_any A A' c c' _ tv W h1 h2 HLL.out
            generalize hln : tv.length = ln at *
            clear hln
            have k2 : w5.cell? ⟨w.heap.size, 2, none⟩ = some (.int .i64 n) := cell_of_row _ _ 2 _ _ _ HN5.out
            have k3 : w5.cell? ⟨w.heap.size, 3, none⟩ = some (.int .i64 m) := cell_of_row _ _ 3 _ _ _ HN5.out
            go_upto_region 11 with fail
            clear k0
            go_region_held3 (fun w' => w'.cell? ⟨w.heap.size, 2, none⟩ = some (.int .i64 n) ∧ w'.cell? ⟨w.heap.size, 3, none⟩ = some (.int .i64 m)) (first | exact ⟨k2, k3⟩ | exact ⟨x2, x3⟩ | exact ⟨y2, y3⟩ | exact ⟨z2, z3⟩ | go_keep)
              (first
                | (go_at_call 52; refine (HPC.out _ HD.out.drew).mono ?_; rintro e w6 ⟨v6, rfl, ho6, hr6, hg6⟩; have x2 := (hg6.cell_far ⟨w.heap.size, 2, none⟩ hl5 (fun e => by injection e with e; exact hng e)).trans k2; have x3 := (hg6.cell_far ⟨w.heap.size, 3, none⟩ hl5 (fun e => by injection e with e; exact hng e)).trans k3; obtain ⟨A6, c6, rfl, _, _⟩ := row_anyW ho6)
                | (go_at_call 62; refine (HQC.out w6 (HQ.out.drew.far HS.out hg6)).mono ?_; rintro e w7 ⟨v7, rfl, ho7, hq7, hg7⟩; have y2 := (hg7.cell_far ⟨w.heap.size, 2, none⟩ (Nat.lt_of_lt_of_le hl5 hg6.size) (fun e => by injection e with e; exact hng2 e)).trans x2; have y3 := (hg7.cell_far ⟨w.heap.size, 3, none⟩ (Nat.lt_of_lt_of_le hl5 hg6.size) (fun e => by injection e with e; exact hng2 e)).trans x3; obtain ⟨A7, c7, rfl, _, _⟩ := row_anyW ho7; have li7 := lies_row ho7; have li6 := lies_row (row_grown ho6 hg7 (by simpa using hg25)))
                | (go_at_call 51; refine (HSM.out _ _ _ _ _ li6 li7).mono ?_; rintro e w8 ⟨rfl, hb8⟩; have z2 := (hb8.cell (p := ⟨w.heap.size, 2, none⟩) (Nat.lt_of_lt_of_le hl5 (Nat.le_trans hg6.size hg7.size))).trans y2; have z3 := (hb8.cell (p := ⟨w.heap.size, 3, none⟩) (Nat.lt_of_lt_of_le hl5 (Nat.le_trans hg6.size hg7.size))).trans y3))
            all_goals
              have HE := Lib.hid (HX.out tp te w8 ((hr6.far HS.out hg7).below hb8 (Nat.lt_of_lt_of_le hg5 (Nat.le_trans hg6.size hg7.size))) (hq7.below hb8 (Nat.lt_of_lt_of_le hg25 (Nat.le_trans hg6.size hg7.size))) ((((HG5.out.trans (G2.of_below ((Below.refl _ _).drew))).trans (G2.of1 hg6)).trans (G2.of2 hg7)).trans (G2.of_below hb8)))
              go_wp2_with fail
              exact HE.out
          · have e4 : (kind == 4) = false := by rw [beq_eq_false_iff_ne]; omega
            by_cases hk : kind = 5
            · subst hk
              have HPC : Hid (∀ W, Rd W g A c l p err → Calls Try.prog 54 #[.pointer (some ⟨g, 0, none⟩), .int .i64 m] W fun e w' => ∃ v, e = .returned v ∧ w'.ownsRow W.heap.size 2 1 v (intsR l p err m).1.length ((intsR l p err m).1.map encI) ∧ Rd w' g A c l (intsR l p err m).2.1 (intsR l p err m).2.2 ∧ W.grownBy w' (some g)) := fun W hW => pIs_any m m1 m2 hW
              have HQC : Hid (∀ W, Rq W g2 A2 c2 l p err → Calls Try.prog 63 #[.pointer (some ⟨g2, 0, none⟩), .int .i64 m] W fun e w' => ∃ v, e = .returned v ∧ w'.ownsRow W.heap.size 2 1 v (intsR l p err m).1.length ((intsR l p err m).1.map encI) ∧ Rq w' g2 A2 c2 l (intsR l p err m).2.1 (intsR l p err m).2.2 ∧ W.grownBy w' (some g2)) := fun W hW => qIs_any g2 c2 p err A2 l m W hW m1 m2
              have HLL : Hid ((intsR l p err m).1.length ≤ 1099511627776) := by
                show _ ≤ _
                exact Nat.le_trans (intsR_len p err m HPOS.out) hsm
              generalize intsR l p err m = t at *
              obtain ⟨tv, tp, te⟩ := t
              simp only at HPC HQC HLL
              have HSM : Hid (∀ A A' c c' W, Lies W W.heap.size A (tv.map encI) → Lies W W.heap.size A' (tv.map encI) → Calls Try.prog 53 #[.slice A tv.length c, .slice A' tv.length c'] W fun e w' => e = .returned (.bool true) ∧ Below W.heap.size W w') := fun A A' c c' W h1 h2 => sameI_any A A' c c' _ tv W h1 h2 HLL.out
              generalize hln : tv.length = ln at *
              clear hln
              have k3 : w5.cell? ⟨w.heap.size, 3, none⟩ = some (.int .i64 m) := cell_of_row _ _ 3 _ _ _ HN5.out
              go_upto_region 13 with fail
              clear k0
              go_region_held3 (fun w' => w'.cell? ⟨w.heap.size, 3, none⟩ = some (.int .i64 m)) (first | exact k3 | exact x3 | exact y3 | exact z3 | go_keep)
                (first
                  | (go_at_call 54; refine (HPC.out _ HD.out.drew).mono ?_; rintro e w6 ⟨v6, rfl, ho6, hr6, hg6⟩; have x3 := (hg6.cell_far ⟨w.heap.size, 3, none⟩ hl5 (fun e => by injection e with e; exact hng e)).trans k3; obtain ⟨A6, c6, rfl, _, _⟩ := row_anyW ho6)
                  | (go_at_call 63; refine (HQC.out w6 (HQ.out.drew.far HS.out hg6)).mono ?_; rintro e w7 ⟨v7, rfl, ho7, hq7, hg7⟩; have y3 := (hg7.cell_far ⟨w.heap.size, 3, none⟩ (Nat.lt_of_lt_of_le hl5 hg6.size) (fun e => by injection e with e; exact hng2 e)).trans x3; obtain ⟨A7, c7, rfl, _, _⟩ := row_anyW ho7; have li7 := lies_row ho7; have li6 := lies_row (row_grown ho6 hg7 (by simpa using hg25)))
                  | (go_at_call 53; refine (HSM.out _ _ _ _ _ li6 li7).mono ?_; rintro e w8 ⟨rfl, hb8⟩; have z3 := (hb8.cell (p := ⟨w.heap.size, 3, none⟩) (Nat.lt_of_lt_of_le hl5 (Nat.le_trans hg6.size hg7.size))).trans y3))
              all_goals
                have HE := Lib.hid (HX.out tp te w8 ((hr6.far HS.out hg7).below hb8 (Nat.lt_of_lt_of_le hg5 (Nat.le_trans hg6.size hg7.size))) (hq7.below hb8 (Nat.lt_of_lt_of_le hg25 (Nat.le_trans hg6.size hg7.size))) ((((HG5.out.trans (G2.of_below ((Below.refl _ _).drew))).trans (G2.of1 hg6)).trans (G2.of2 hg7)).trans (G2.of_below hb8)))
                go_wp2_with fail
                exact HE.out
            · have e5 : (kind == 5) = false := by rw [beq_eq_false_iff_ne]; omega
              by_cases hk : kind = 6
              · subst hk
                have HPC : Hid (∀ W, Rd W g A c l p err → Calls Try.prog 64 #[.pointer (some ⟨g, 0, none⟩), .int .i64 n, .int .i64 m] W fun e w' => e = .returned (.int .i64 ((wR l p err n m)).1) ∧ Rd w' g A c l (wR l p err n m).2.1 (wR l p err n m).2.2 ∧ W.grownBy w' (some g)) := fun W hW => pW_any n m hW
                have HQC : Hid (∀ W, Rq W g2 A2 c2 l p err → Calls Try.prog 65 #[.pointer (some ⟨g2, 0, none⟩), .int .i64 n, .int .i64 m] W fun e w' => e = .returned (.int .i64 ((wR l p err n m)).1) ∧ Rq w' g2 A2 c2 l (wR l p err n m).2.1 (wR l p err n m).2.2 ∧ W.grownBy w' (some g2)) := fun W hW => qW_any g2 c2 p err A2 l n m W hW
                generalize wR l p err n m = t at *
                obtain ⟨tv, tp, te⟩ := t
                simp only at HPC HQC
                have k2 : w5.cell? ⟨w.heap.size, 2, none⟩ = some (.int .i64 n) := cell_of_row _ _ 2 _ _ _ HN5.out
                have k3 : w5.cell? ⟨w.heap.size, 3, none⟩ = some (.int .i64 m) := cell_of_row _ _ 3 _ _ _ HN5.out
                go_upto_region 15 with fail
                clear k0
                go_region_held3 (fun w' => w'.cell? ⟨w.heap.size, 2, none⟩ = some (.int .i64 n) ∧ w'.cell? ⟨w.heap.size, 3, none⟩ = some (.int .i64 m)) (first | exact ⟨k2, k3⟩ | exact ⟨x2, x3⟩ | exact ⟨y2, y3⟩ | go_keep)
                  (first | (go_at_call 64; refine (HPC.out _ HD.out.drew).mono ?_; rintro e w6 ⟨rfl, hr6, hg6⟩; have x2 := (hg6.cell_far ⟨w.heap.size, 2, none⟩ hl5 (fun e => by injection e with e; exact hng e)).trans k2; have x3 := (hg6.cell_far ⟨w.heap.size, 3, none⟩ hl5 (fun e => by injection e with e; exact hng e)).trans k3) | (go_at_call 65; refine (HQC.out w6 (HQ.out.drew.far HS.out hg6)).mono ?_; rintro e w7 ⟨rfl, hq7, hg7⟩; have y2 := (hg7.cell_far ⟨w.heap.size, 2, none⟩ (Nat.lt_of_lt_of_le hl5 hg6.size) (fun e => by injection e with e; exact hng2 e)).trans x2; have y3 := (hg7.cell_far ⟨w.heap.size, 3, none⟩ (Nat.lt_of_lt_of_le hl5 hg6.size) (fun e => by injection e with e; exact hng2 e)).trans x3))
                all_goals
                  have HE := Lib.hid (HX.out tp te w7 (hr6.far HS.out hg7) hq7 (((HG5.out.trans (G2.of_below ((Below.refl _ _).drew))).trans (G2.of1 hg6)).trans (G2.of2 hg7)))
                  go_wp2_with fail
                  exact HE.out
              · have e6 : (kind == 6) = false := by rw [beq_eq_false_iff_ne]; omega
                by_cases hk : kind = 7
                · subst hk
                  have HPC : Hid (∀ W, Rd W g A c l p err → Calls Try.prog 66 #[.pointer (some ⟨g, 0, none⟩), .int .i64 m] W fun e w' => ∃ v, e = .returned v ∧ Own w' W.heap.size v (bytesR l p err m).1 ∧ Rd w' g A c l (bytesR l p err m).2.1 (bytesR l p err m).2.2 ∧ W.grownBy w' (some g)) := fun W hW => pB_any m hW
                  have HQC : Hid (∀ W, Rq W g2 A2 c2 l p err → Calls Try.prog 67 #[.pointer (some ⟨g2, 0, none⟩), .int .i64 m] W fun e w' => ∃ v, e = .returned v ∧ Own w' W.heap.size v (bytesR l p err m).1 ∧ Rq w' g2 A2 c2 l (bytesR l p err m).2.1 (bytesR l p err m).2.2 ∧ W.grownBy w' (some g2)) := fun W hW => qB_any g2 c2 p err A2 l m W hW m1 m2
                  generalize bytesR l p err m = t at *
                  obtain ⟨tv, tp, te⟩ := t
                  simp only at HPC HQC
                  have k3 : w5.cell? ⟨w.heap.size, 3, none⟩ = some (.int .i64 m) := cell_of_row _ _ 3 _ _ _ HN5.out
                  go_upto_region 17 with fail
                  clear k0
                  go_region_with (first
                    | (go_at_call 66; refine (HPC.out _ HD.out.drew).mono ?_; rintro e w6 ⟨v6, rfl, ho6, hr6, hg6⟩; have x3 := (hg6.cell_far ⟨w.heap.size, 3, none⟩ hl5 (fun e => by injection e with e; exact hng e)).trans k3; have HO6 := Lib.hid ho6; obtain ⟨A6, c6, rfl, _, _, hbs6, _, _⟩ := ho6.form; have cv6 := hbs6.str Try.underlying23 Try.underlying5 Try.underlying9 c6; have HO6' := HO6; clear hbs6)
                    | (go_at_call 67; refine (HQC.out w6 (HQ.out.drew.far HS.out hg6)).mono ?_; rintro e w7 ⟨v7, rfl, ho7, hq7, hg7⟩; have y3 := (hg7.cell_far ⟨w.heap.size, 3, none⟩ (Nat.lt_of_lt_of_le hl5 hg6.size) (fun e => by injection e with e; exact hng2 e)).trans x3; obtain ⟨A7, c7, rfl, _, _, hbs7, _, _⟩ := ho7.form; have cv7 := hbs7.str Try.underlying23 Try.underlying5 Try.underlying9 c7; have ho67 : Own w7 w5.drew.heap.size (.slice A6 tv.length c6) tv := row_grown HO6.out hg7 (by simpa using hg25); have hbs67 : Bs w7 w7.heap.size A6 tv.length tv := ⟨rfl, lies_row ho67⟩; have cv67 := hbs67.str Try.underlying23 Try.underlying5 Try.underlying9 c6; clear hbs7 hbs67 ho67))
                  all_goals
                    have HE := Lib.hid (HX.out tp te w7 (hr6.far HS.out hg7) hq7 (((HG5.out.trans (G2.of_below ((Below.refl _ _).drew))).trans (G2.of1 hg6)).trans (G2.of2 hg7)))
                    go_wp2_with fail
                    first | exact HE.out | (go_ret; exact HE.out)
                · have e7 : (kind == 7) = false := by rw [beq_eq_false_iff_ne]; omega
                  by_cases hk : kind = 8
                  · subst hk
                    have HPC : Hid (∀ W, Rd W g A c l p err → Calls Try.prog 68 #[.pointer (some ⟨g, 0, none⟩)] W fun e w' => e = .returned (.int .i64 (((byteR l p err)).1 : Int)) ∧ Rd w' g A c l (byteR l p err).2.1 (byteR l p err).2.2 ∧ W.grownBy w' (some g)) := fun W hW => pY_any hW
                    have HQC : Hid (∀ W, Rq W g2 A2 c2 l p err → Calls Try.prog 69 #[.pointer (some ⟨g2, 0, none⟩)] W fun e w' => e = .returned (.int .i64 (((byteR l p err)).1 : Int)) ∧ Rq w' g2 A2 c2 l (byteR l p err).2.1 (byteR l p err).2.2 ∧ W.grownBy w' (some g2)) := fun W hW => qY_any g2 c2 p err A2 l W hW
                    generalize byteR l p err = t at *
                    obtain ⟨tv, tp, te⟩ := t
                    simp only at HPC HQC
                    go_wp2_with (first | (go_at_call 68; (with_reducible refine (HPC.out w5 HD.out).mono ?_); rintro e w6 ⟨rfl, hr6, hg6⟩) | (go_at_call 69; (with_reducible refine (HQC.out w6 (HQ.out.far HS.out hg6)).mono ?_); rintro e w7 ⟨rfl, hq7, hg7⟩))
                    exact HX.out tp te w7 (hr6.far HS.out hg7) hq7 ((HG5.out.trans (G2.of1 hg6)).trans (G2.of2 hg7))
                  · have e8 : (kind == 8) = false := by rw [beq_eq_false_iff_ne]; omega
                    by_cases hk : kind = 9
                    · subst hk
                      have HPC : Hid (∀ W, Rd W g A c l p err → Calls Try.prog 70 #[.pointer (some ⟨g, 0, none⟩)] W fun e w' => ∃ v, e = .returned v ∧ Own w' W.heap.size v (bytesR l p err ((l.length : Int) - (p : Int))).1 ∧ Rd w' g A c l (bytesR l p err ((l.length : Int) - (p : Int))).2.1 (bytesR l p err ((l.length : Int) - (p : Int))).2.2 ∧ W.grownBy w' (some g)) := fun W hW => pR_any hW
                      have HQC : Hid (∀ W, Rq W g2 A2 c2 l p err → Calls Try.prog 71 #[.pointer (some ⟨g2, 0, none⟩)] W fun e w' => ∃ v, e = .returned v ∧ Own w' W.heap.size v (bytesR l p err ((l.length : Int) - (p : Int))).1 ∧ Rq w' g2 A2 c2 l (bytesR l p err ((l.length : Int) - (p : Int))).2.1 (bytesR l p err ((l.length : Int) - (p : Int))).2.2 ∧ W.grownBy w' (some g2)) := fun W hW => qR_any g2 c2 p err A2 l W hW
                      generalize bytesR l p err ((l.length : Int) - (p : Int)) = t at *
                      obtain ⟨tv, tp, te⟩ := t
                      simp only at HPC HQC
                      go_upto_region 21 with fail
                      clear k0
                      go_region_with (first
                        | (go_at_call 70; refine (HPC.out _ HD.out.drew).mono ?_; rintro e w6 ⟨v6, rfl, ho6, hr6, hg6⟩; have HO6 := Lib.hid ho6; obtain ⟨A6, c6, rfl, _, _, hbs6, _, _⟩ := ho6.form; have cv6 := hbs6.str Try.underlying23 Try.underlying5 Try.underlying9 c6; have HO6' := HO6; clear hbs6)
                        | (go_at_call 71; refine (HQC.out w6 (HQ.out.drew.far HS.out hg6)).mono ?_; rintro e w7 ⟨v7, rfl, ho7, hq7, hg7⟩; obtain ⟨A7, c7, rfl, _, _, hbs7, _, _⟩ := ho7.form; have cv7 := hbs7.str Try.underlying23 Try.underlying5 Try.underlying9 c7; have ho67 : Own w7 w5.drew.heap.size (.slice A6 tv.length c6) tv := row_grown HO6.out hg7 (by simpa using hg25); have hbs67 : Bs w7 w7.heap.size A6 tv.length tv := ⟨rfl, lies_row ho67⟩; have cv67 := hbs67.str Try.underlying23 Try.underlying5 Try.underlying9 c6; clear hbs7 hbs67 ho67))
                      all_goals
                        have HE := Lib.hid (HX.out tp te w7 (hr6.far HS.out hg7) hq7 (((HG5.out.trans (G2.of_below ((Below.refl _ _).drew))).trans (G2.of1 hg6)).trans (G2.of2 hg7)))
                        go_wp2_with fail
                        first | exact HE.out | (go_ret; exact HE.out)
                    · have e9 : (kind == 9) = false := by rw [beq_eq_false_iff_ne]; omega
                      by_cases hk : kind = 10
                      · subst hk
                        have HPC : Hid (∀ W, Rd W g A c l p err → Calls Try.prog 15 #[.pointer (some ⟨g, 0, none⟩)] W fun e w' => e = .returned (.int .i64 (endE l p err : Int)) ∧ Rd w' g A c l p (endE l p err) ∧ W.grownBy w' (some g)) := fun W hW => pEnd_any g c p err A l W hW
                        have HQC : Hid (∀ W, Rq W g2 A2 c2 l p err → Calls Try.prog 72 #[.pointer (some ⟨g2, 0, none⟩)] W fun e w' => e = .returned (.int .i64 (endE l p err : Int)) ∧ Rq w' g2 A2 c2 l p (endE l p err) ∧ W.grownBy w' (some g2)) := fun W hW => qE_any g2 c2 p err A2 l W hW
                        generalize endE l p err = te at *
                        go_wp2_with (first | (go_at_call 15; (with_reducible refine (HPC.out w5 HD.out).mono ?_); rintro e w6 ⟨rfl, hr6, hg6⟩) | (go_at_call 72; (with_reducible refine (HQC.out w6 (HQ.out.far HS.out hg6)).mono ?_); rintro e w7 ⟨rfl, hq7, hg7⟩))
                        exact HX.out p te w7 (hr6.far HS.out hg7) hq7 ((HG5.out.trans (G2.of1 hg6)).trans (G2.of2 hg7))
                      · have e10 : (kind == 10) = false := by rw [beq_eq_false_iff_ne]; omega
                        have HE := Lib.hid (HX.out p err w5 HD.out HQ.out HG5.out)
                        go_wp2_with fail
                        exact HE.out
end Go.Proofs.Ytgbdgpacnpeahaa
