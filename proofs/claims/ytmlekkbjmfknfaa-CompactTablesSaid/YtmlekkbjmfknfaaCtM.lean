/-
  A table beside the document's one; what the law's same does.
-/
import Derived.Test.YtmlekkbjmfknfaaCtF
import Derived.Test.YtmlekkbjmfknfaaCtK
import Derived.Test.YtmlekkbjmfknfaaCtL
import Derived.Test.YtmlekkbjmfknfaaCtN
import Derived.Test.YtmlekkbjmfknfaaCpR
import Derived.Test.YtmlekkbjmfknfaaCpK
namespace Go.Proofs.Ytmlekkbjmfknfaa
open Go.RowKit Go.Lib Go.Sort
set_option linter.unusedVariables false
set_option linter.unusedSimpArgs false

/-- all blocks but those of S are as they were -/
structure Fr (S : Nat → Prop) (w w' : World) : Prop where
  os : w'.os = w.os
  tape : w'.tape = w.tape
  output : w'.output = w.output
  size : w.heap.size ≤ w'.heap.size
  block : ∀ k, k < w.heap.size → ¬ S k → w'.heap[k]? = w.heap[k]?
/-- a table in block g, the document's in block h; all that they hold lies in S -/
structure TP (w : World) (S : Nat → Prop) (g h : Nat) (n : Int) (v u : Value) (L R : List AtC) : Prop where
  t : Tbl w 0 g n v L
  r : Rt w 0 h n u R
  alk : Alk L R
  gh : g ≠ h
  vh : v.ownBlock ≠ some h
  ug : u.ownBlock ≠ some g
  vu : ∀ k, v.ownBlock = some k → u.ownBlock ≠ some k
  sg : S g
  sh : S h
  sv : ∀ k, v.ownBlock = some k → S k
  su : ∀ k, u.ownBlock = some k → S k
  lt : ∀ k, S k → k < w.heap.size
  n0 : 0 ≤ n
  n1 : n ≤ 1099511627777
section
variable {S S' S'' : Nat → Prop} {w w' w'' : World} {g h : Nat} {n : Int} {v u : Value} {L R : List AtC}
theorem Fr.refl (S : Nat → Prop) (w : World) : Fr S w w := ⟨rfl, rfl, rfl, Nat.le_refl _, fun _ _ _ => rfl⟩
theorem Fr.trans (h1 : Fr S w w') (h2 : Fr S' w' w'') (hs : ∀ k, k < w.heap.size → S' k → S k) : Fr S w w'' :=
  ⟨h2.os.trans h1.os, h2.tape.trans h1.tape, h2.output.trans h1.output, Nat.le_trans h1.size h2.size, fun k hk hn => (h2.block k (Nat.lt_of_lt_of_le hk h1.size) (fun e => hn (hs k hk e))).trans (h1.block k hk hn)⟩
theorem Fr.of_below (hb : Below w.heap.size w w') : Fr S w w' := ⟨hb.os, hb.tape, hb.output, hb.size, fun k hk _ => hb.block k hk⟩
theorem Fr.mono (h1 : Fr S w w') (hs : ∀ k, S k → S' k) : Fr S' w w' := ⟨h1.os, h1.tape, h1.output, h1.size, fun k hk hn => h1.block k hk fun e => hn (hs k e)⟩
theorem Fr.below {B : Nat} (h1 : Fr S w w') (hs : ∀ k, S k → B ≤ k) (hB : B ≤ w.heap.size) : Below B w w' := ⟨h1.os, h1.tape, h1.output, h1.size, fun k hk => h1.block k (Nat.lt_of_lt_of_le hk hB) fun e => by have := hs k e; omega⟩
theorem TP.srt (h1 : TP w S g h n v u L R) : Srt L := h1.t.srt
theorem TP.len (h1 : TP w S g h n v u L R) : R.length = L.length := h1.alk.len h1.srt
theorem TP.below (h1 : TP w S g h n v u L R) (hb : Below w.heap.size w w') : TP w' S g h n v u L R :=
  ⟨h1.t.below hb, h1.r.below hb, h1.alk, h1.gh, h1.vh, h1.ug, h1.vu, h1.sg, h1.sh, h1.sv, h1.su, fun k hk => Nat.lt_of_lt_of_le (h1.lt k hk) hb.size, h1.n0, h1.n1⟩
theorem row_fr {base s m : Nat} {e : TypeId} {v : Value} {xs : List Value} (h1 : w.ownsRow base e s v m xs) (hf : Fr S w w') (hv : ∀ k, v.ownBlock = some k → ¬ S k) : w'.ownsRow base e s v m xs := by
  refine ⟨h1.1, ?_⟩
  rcases h1.2 with h2 | ⟨b, cap, cur, rfl, hb, hh, r⟩
  · exact .inl h2
  · exact .inr ⟨b, cap, cur, rfl, hb, (hf.block b (Array.getElem?_eq_some_iff.1 hh).1 (hv b rfl)).trans hh, r⟩
theorem Tbl.fr {base : Nat} (h1 : Tbl w base g n v L) (hf : Fr S w w') (hg : ¬ S g) (hv : ∀ k, v.ownBlock = some k → ¬ S k) : Tbl w' base g n v L :=
  ⟨(hf.block g h1.lt hg).trans h1.box, row_fr h1.row hf hv, h1.far, h1.srt, h1.ok⟩
theorem Rt.fr {base : Nat} (h1 : Rt w base g n v R) (hf : Fr S w w') (hg : ¬ S g) (hv : ∀ k, v.ownBlock = some k → ¬ S k) : Rt w' base g n v R :=
  ⟨(hf.block g (Array.getElem?_eq_some_iff.1 h1.box).1 hg).trans h1.box, row_fr h1.row hf hv, h1.far, h1.ok⟩
/-- what happens to another pair's memory leaves a pair -/
theorem TP.fr (h1 : TP w S g h n v u L R) (hf : Fr S' w w') (hs : ∀ k, S k → ¬ S' k) : TP w' S g h n v u L R :=
  ⟨h1.t.fr hf (hs g h1.sg) fun k e => hs k (h1.sv k e), h1.r.fr hf (hs h h1.sh) fun k e => hs k (h1.su k e), h1.alk, h1.gh, h1.vh, h1.ug, h1.vu, h1.sg, h1.sh, h1.sv, h1.su, fun k hk => Nat.lt_of_lt_of_le (h1.lt k hk) hf.size, h1.n0, h1.n1⟩
theorem Tbl.base0 {base : Nat} (h1 : Tbl w base g n v L) : Tbl w 0 g n v L := ⟨h1.box, row_base5 h1.row (Nat.zero_le _), h1.far, h1.srt, h1.ok⟩
theorem Rt.base0 {base : Nat} (h1 : Rt w base g n v R) : Rt w 0 g n v R := ⟨h1.box, row_base5 h1.row (Nat.zero_le _), h1.far, h1.ok⟩
end
set_option maxRecDepth 100000 in
set_option maxHeartbeats 4000000 in
theorem same_any (S : Nat → Prop) (g h : Nat) (n : Int) (v u : Value) (L R : List AtC) (w : World) (hP : TP w S g h n v u L R) (hL : L.length ≤ 1000) :
    Calls Try.prog 9 #[.pointer (some ⟨g, 0, none⟩), .pointer (some ⟨h, 0, none⟩)] w fun e w' => e = .returned (.bool true) ∧ Below w.heap.size w w' := by
  have hlen := hP.len
  have HLEN : Hid (∀ W, Below w.heap.size w W → Calls Try.prog 38 #[.pointer (some ⟨g, 0, none⟩)] W fun e w' => e = .returned (.int .i64 (L.length : Int)) ∧ w' = W) := fun W hW => len9_any _ g n v L W (hP.t.below hW)
  have HNX : Hid (∀ W, Below w.heap.size w W → Calls Try.prog 39 #[.pointer (some ⟨g, 0, none⟩)] W fun e w' => e = .returned (.int .i64 n) ∧ w' = W) := fun W hW => next9_any _ g n v L W (hP.t.below hW)
  have HALL : Hid (∀ W, Below w.heap.size w W → Calls Try.prog 41 #[.pointer (some ⟨g, 0, none⟩)] W fun e w' => ∃ v, e = .returned v ∧ w'.ownsRow W.heap.size 81 5 v L.length (ccells L) ∧ Below W.heap.size W w') := fun W hW => all9_any _ g n v L W (hP.t.below hW) (by omega)
  have HRA : Hid (∀ W, Below w.heap.size w W → Calls Try.prog 42 #[.pointer (some ⟨h, 0, none⟩)] W fun e w' => ∃ v', e = .returned v' ∧ w'.ownsRow W.heap.size 90 5 v' L.length (ccells L) ∧ Below W.heap.size W w') := fun W hW => rall_any _ h n u L R W (hP.r.below hW) hP.alk hP.srt (by omega)
  have HAK : Hid (∀ A A' c c' W, Acs W W.heap.size A L.length L → Acs W W.heap.size A' L.length L → Calls Try.prog 40 #[.slice A L.length c, .slice A' L.length c'] W fun e w' => e = .returned (.bool true) ∧ Below W.heap.size W w') := fun A A' c c' W h1 h2 => alike_any A A' L.length c c' L W h1 h2 (by omega)
  have HOK := Lib.hid hP.t.ok
  obtain ⟨A, c, rfl, _, _, _⟩ := Acs.of_row hP.r.row rfl hP.r.ok
  have hhl := (Array.getElem?_eq_some_iff.1 hP.r.box).1
  have hbx := hP.r.box
  rw [hlen] at hbx
  have c0 : w.cell? ⟨h, 0, none⟩ = some (.int .i64 n) := cell_of_row _ _ 0 _ _ _ hbx
  have c1 : w.cell? ⟨h, 1, none⟩ = some (.slice A L.length c) := cell_of_row _ _ 1 _ _ _ hbx
  clear hP hlen hbx
  generalize hm : L.length = m at *
  have HM := Lib.hid hm
  clear hm
  go_enter Try.func9, Try.ntmps9
  go_upto_region 1 with fail
  go_region_held3 (fun w' => w'.cell? ⟨h, 0, none⟩ = some (.int .i64 n) ∧ w'.cell? ⟨h, 1, none⟩ = some (.slice A m c)) (first | exact ⟨c0, c1⟩ | exact ⟨k0, k1⟩ | exact ⟨m0, m1⟩ | exact ⟨q0, q1⟩ | go_keep)
    (first
      | (go_at_call 38; refine (HLEN.out _ ((Below.refl _ _).drew)).mono ?_; rintro e wa ⟨rfl, rfl⟩)
      | (go_at_call 39; refine (HNX.out _ ((Below.refl _ _).drew)).mono ?_; rintro e wa ⟨rfl, rfl⟩)
      | (go_at_call 41; refine (HALL.out _ ((Below.refl _ _).drew)).mono ?_; rintro e w1 ⟨v1, rfl, hv1, hb1⟩; obtain ⟨A1, c1', rfl, _, _, hA1⟩ := Acs.of_row hv1 HM.out HOK.out; have hQ1 : Below w.heap.size w w1 := ((Below.refl _ _).drew).trans (hb1.mono (by simp)); have k0 := (hQ1.cell (p := ⟨h, 0, none⟩) hhl).trans c0; have k1 := (hQ1.cell (p := ⟨h, 1, none⟩) hhl).trans c1)
      | (go_at_call 42; refine (HRA.out _ hQ1).mono ?_; rintro e w2 ⟨v2, rfl, hv2, hb2⟩; obtain ⟨A2, c2', rfl, _, _, hA2⟩ := Acs.of_row hv2 HM.out HOK.out; have hA1' := (hA1.below hb2).wider hb2.size; have hQ2 : Below w.heap.size w w2 := hQ1.trans (hb2.mono hQ1.size); have m0 := (hQ2.cell (p := ⟨h, 0, none⟩) hhl).trans c0; have m1 := (hQ2.cell (p := ⟨h, 1, none⟩) hhl).trans c1)
      | (go_at_call 40; refine (HAK.out _ _ _ _ _ hA1' hA2).mono ?_; rintro e w3 ⟨rfl, hb3⟩; have hQ3 : Below w.heap.size w w3 := hQ2.trans (hb3.mono hQ2.size); have q0 := (hQ3.cell (p := ⟨h, 0, none⟩) hhl).trans c0; have q1 := (hQ3.cell (p := ⟨h, 1, none⟩) hhl).trans c1))
  all_goals
    go_wp2_with fail
    go_ret
    exact ⟨rfl, hQ3⟩
end Go.Proofs.Ytmlekkbjmfknfaa
