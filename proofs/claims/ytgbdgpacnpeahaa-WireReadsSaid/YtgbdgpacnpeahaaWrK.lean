/-
  What the reader's Bytes and Rest do.
-/
import Derived.Test.YtgbdgpacnpeahaaWrJ
namespace Go.Proofs.Ytgbdgpacnpeahaa
open Go.RowKit Go.Lib Go.Sort
set_option linter.unusedVariables false
set_option linter.unusedSimpArgs false

/-- what a decoder of a list comes to, in memory -/
def DLp {α : Type} (ET : TypeId) (enc : α → Value) (w : World) (g c err : Nat) (A : Option Addr) (l : List UInt8) (r : Dl α) (e : Ending) (w' : World) : Prop :=
  match r with
  | .ok L q => ∃ v, e = .returned (.tuple #[v, .int .i64 0]) ∧ w'.ownsRow w.heap.size ET 1 v L.length (L.map enc) ∧ Rd w' g A c l q err ∧ w.grownBy w' (some g)
  | .bad er => ∃ y q, e = .returned (.tuple #[y, .int .i64 (er : Int)]) ∧ 0 < er ∧ Rd w' g A c l q err ∧ w.grownBy w' (some g)
def RLp {α : Type} (ET : TypeId) (enc : α → Value) (w : World) (g c : Nat) (A : Option Addr) (l : List UInt8) (p : Nat) (r : Dl α) (e : Ending) (w' : World) : Prop :=
  match r with
  | .ok L q => ∃ v, e = .returned v ∧ w'.ownsRow w.heap.size ET 1 v L.length (L.map enc) ∧ Rd w' g A c l q 0 ∧ w.grownBy w' (some g)
  | .bad er => e = .returned (.slice none 0 0) ∧ Rd w' g A c l p er ∧ w.grownBy w' (some g)
set_option maxHeartbeats 2000000 in
theorem run_d (g c p err : Nat) (A : Option Addr) (l : List UInt8) (n : Int) (w : World) (h : Rd w g A c l p err) :
    Calls Try.prog 140 #[.pointer (some ⟨g, 0, none⟩), .int .i64 n] w (DLp 5 bv w g c err A l (dRun l p n)) := by
  obtain ⟨i0, hi0, hz0, hz1, hz2⟩ := info_parts byte_info
  have HL := Lib.hid (left_any g c p err A l w h)
  have HRD := Lib.hid h
  have hp := h.pos
  have hs := h.small
  have hlt := h.lt
  unfold dRun
  by_cases h1 : n < 0
  · rw [if_pos h1]
    have HG0 : Hid (w.grownBy w (some g)) := World.grownBy.refl _ _
    go_enter Try.func140, Try.ntmps140
    go_wp2_with fail
    go_ret2
    exact ⟨_, p, rfl, by omega, HRD.out, HG0.out⟩
  · rw [if_neg h1]
    have d0 : decide (n < 0) = false := decide_eq_false h1
    by_cases h2 : ((l.length - p : Nat) : Int) < n
    · rw [if_pos h2]
      have d1 : decide (((l.length - p : Nat) : Int) < n) = true := decide_eq_true h2
      generalize l.length - p = m at *
      clear h1 h2 h
      go_enter Try.func140, Try.ntmps140
      go_wp2_with (go_at_call 55; refine HL.out.mono ?_; rintro e w1 ⟨rfl, k, rfl⟩)
      go_ret2
      exact ⟨_, p, rfl, by omega, HRD.out.drewN _, grown_draws _ _ _⟩
    · rw [if_neg h2]
      obtain ⟨m, rfl⟩ : ∃ m : Nat, n = (m : Int) := ⟨n.toNat, by omega⟩
      have hm : p + m ≤ l.length := by omega
      have d1 : decide (((l.length - p : Nat) : Int) < (m : Int)) = false := decide_eq_false h2
      have d2 : decide (l.length - p < m) = false := by rw [decide_eq_false_iff_not]; omega
      have HCU : Hid (∀ W, Rd W g A c l p err → Calls Try.prog 170 #[.pointer (some ⟨g, 0, none⟩), .int .i64 (m : Int)] W fun e w' => ∃ A' c', e = .returned (.slice A' m c') ∧ m ≤ c' ∧ c' ≤ maxLen ∧ Bs w' g A' m ((l.drop p).take m) ∧ Rd w' g A c l (p + m) err ∧ W.grownBy w' (some g)) := fun W hW => cut_any g c p err m A l W hW hm
      rw [Int.toNat_natCast]
      have hbl : ((l.drop p).take m).length = m := by rw [List.length_take, List.length_drop]; omega
      generalize (l.drop p).take m = bs at *
      generalize l.length - p = ml at *
      have hm64 : m ≤ 1099511627776 := by omega
      clear h1 h2 h
      go_enter Try.func140, Try.ntmps140
      go_wp2_with (first
        | (go_at_call 55; refine HL.out.mono ?_; rintro e w1 ⟨rfl, k, rfl⟩)
        | (go_at_call 170; refine (HCU.out _ (HRD.out.drewN _)).mono ?_; rintro e w2 ⟨A3, c3, rfl, hc3, hm3, hbs3, hr2, hg2⟩; have hz2' : w.heap.size ≤ w2.heap.size := hg2.size)
        | (at_builtin; go_loud (refine wpList_append_src _ rfl (.const (.slice none 0 0)) (.tmp 14) 23 rfl w.heap.size 5 i0 _ 1 Try.underlying23 hi0 hz0 hz1 hz2 rfl _ 0 [] rfl (World.ownsRow_nil _ _ _ _) g A3 m c3 (bvs bs) rfl (by rw [bvs_length]; exact hbl) hbs3.lies (bvs_one _) (by unfold maxLen; omega) (by omega) hz2' ?_)))
      intro v4 w4 ho4 hg4 _
      have hb4 : Below w2.heap.size w2 w4 := (Below.refl _ _).grown hg4 (Nat.le_refl _) (fun q hq => by cases hq)
      have HO4 : Hid (w4.ownsRow w.heap.size 5 1 v4 bs.length (bs.map bv)) := by
        show World.ownsRow _ _ _ _ _ _ _
        rw [hbl]
        simpa [bvs] using ho4
      have HR4 := Lib.hid (hr2.below hb4 hr2.lt)
      have HG4 := Lib.hid (grown_trans (grown_trans (grown_draws w k _) hg2) (grown_of_below hb4 (some g)))
      clear ho4 hg4 hb4 hr2 hg2 hbs3
      go_wp2_with fail
      go_ret2
      exact ⟨_, rfl, HO4.out, HR4.out, HG4.out⟩
theorem row_lower {w : World} {base base' s n : Nat} {e : TypeId} {v : Value} {xs : List Value} (h : w.ownsRow base e s v n xs) (hb : base' ≤ base) : w.ownsRow base' e s v n xs := by
  refine ⟨h.1, ?_⟩
  rcases h.2 with h2 | ⟨b, cap, cur, hv, hb', r⟩
  · exact .inl h2
  · exact .inr ⟨b, cap, cur, hv, by omega, r⟩

set_option maxRecDepth 100000 in
set_option maxHeartbeats 4000000 in
theorem cBytes_any (bx by_ g c p err : Nat) (A : Option Addr) (l : List UInt8) (n : Int) (w : World) (h : Rd w g A c l p err) (hbx : w.cell? ⟨bx, 0, none⟩ = some (.pointer (some ⟨g, 0, none⟩))) (hby_ : w.cell? ⟨by_, 0, none⟩ = some (.int .i64 n)) :
    Calls Try.prog 139 #[.pointer (some ⟨bx, 0, none⟩), .pointer (some ⟨by_, 0, none⟩)] w (DLp 5 bv w g c err A l (dRun l p n)) := by
  have HU := Lib.hid (run_d g c p err A l n w.drew h.drew)
  have HGD := Lib.hid (grown_of_below ((Below.refl w.heap.size w).drew) (some g))
  generalize dRun l p n = r at *
  clear h
  cases r with
  | ok x q =>
    go_enter Try.func139, Try.ntmps139
    go_wp2_with fail
    go_region_with ((go_at_call 140; refine HU.out.mono ?_; rintro e w1 ⟨v, rfl, ho, hr, hg⟩; have HO : Hid (w1.ownsRow w.heap.size 5 1 v x.length (x.map bv)) := ho; have HR := Lib.hid hr; have HG := Lib.hid hg; clear ho hr hg))
    all_goals
      go_wp2_with fail
      go_ret2
      exact ⟨_, rfl, HO.out, HR.out, grown_trans HGD.out HG.out⟩
  | bad er =>
    go_enter Try.func139, Try.ntmps139
    go_wp2_with fail
    go_region_with ((go_at_call 140; refine HU.out.mono ?_; rintro e w1 ⟨y, q, rfl, her, hr, hg⟩; have HR := Lib.hid hr; have HG := Lib.hid hg; clear hr hg))
    all_goals
      go_wp2_with fail
      go_ret2
      exact ⟨_, _, rfl, her, HR.out, grown_trans HGD.out HG.out⟩

set_option maxRecDepth 100000 in
set_option maxHeartbeats 4000000 in
theorem rBytes_any (g c p : Nat) (A : Option Addr) (l : List UInt8) (n : Int) (w : World) (h : Rd w g A c l p 0) :
    Calls Try.prog 66 #[.pointer (some ⟨g, 0, none⟩), .int .i64 n] w (RLp 5 bv w g c A l p (dRun l p n)) := by
  have c2 := h.c2
  have c0 := h.c0
  have c1 := h.c1
  have hlt := h.lt
  have HRD := Lib.hid h
  have HD : Hid (∀ W bx by_, Rd W g A c l p 0 → W.cell? ⟨bx, 0, none⟩ = some (.pointer (some ⟨g, 0, none⟩)) → W.cell? ⟨by_, 0, none⟩ = some (.int .i64 n) → Calls Try.prog 139 #[.pointer (some ⟨bx, 0, none⟩), .pointer (some ⟨by_, 0, none⟩)] W (DLp 5 bv W g c 0 A l (dRun l p n))) := fun W bx by_ h hbx hby_ => cBytes_any bx by_ g c p 0 A l n W h hbx hby_
  clear h
  generalize dRun l p n = r at *
  go_enter Try.func66, Try.ntmps66
  go_wp2_with (first | (go_at_call 139; refine (HD.out _ _ _ (HRD.out.alloc _ |>.alloc _ |>.alloc _) (box_a _ _ _ _ _) (box_b _ _ _ _ _)).mono ?_) | go_in)
  intro e w1 hp
  cases r with
  | ok x q =>
    obtain ⟨v, rfl, ho, hr, hg⟩ := hp
    have HO : Hid (w1.ownsRow w.heap.size 5 1 v x.length (x.map bv)) := row_lower ho (by simp; omega)
    have HR := Lib.hid hr
    have HG := Lib.hid hg
    clear ho hr hg
    go_wp2_with fail
    go_ret
    exact ⟨v, rfl, HO.out, HR.out, grown_trans (grown_three _ _ _ _ _) HG.out⟩
  | bad er =>
    obtain ⟨y, q, rfl, her, hr, hg⟩ := hp
    have hb : w1.heap[w.heap.size + 2]? = _ := (hg.block (w.heap.size + 2) (by simp) (by intro e; injection e with e; omega)).trans (three_blk _ _ _ _ _)
    have s0 : w1.cell? ⟨w.heap.size + 2, 0, none⟩ = some (.slice A l.length c) := cell_of_row w1 _ 0 _ _ _ hb
    have s1 : w1.cell? ⟨w.heap.size + 2, 1, none⟩ = some (.int .i64 (p : Int)) := cell_of_row w1 _ 1 _ _ _ hb
    have hne : ((er : Int) != 0) = true := by rw [bne_iff_ne]; omega
    have f0 := hr.free 0
    have f1 := hr.free 1
    have f2 := hr.free 2
    have d0 := hr.c0
    have d1 := hr.c1
    have d2 := hr.c2
    have HR := Lib.hid (hr.back HRD.out.pos er)
    have HG := Lib.hid hg
    clear hr hg hb HD HRD c0 c1 c2
    go_wp2_with fail
    go_ret
    exact ⟨rfl, HR.out, grown_trans (grown_trans (grown_three _ _ _ _ _) HG.out) (grown_back _ _ _ _)⟩

set_option maxRecDepth 100000 in
set_option maxHeartbeats 4000000 in
theorem cRest_any (bx g c p err : Nat) (A : Option Addr) (l : List UInt8) (w : World) (h : Rd w g A c l p err) (hbx : w.cell? ⟨bx, 0, none⟩ = some (.pointer (some ⟨g, 0, none⟩))) :
    Calls Try.prog 144 #[.pointer (some ⟨bx, 0, none⟩)] w (DLp 5 bv w g c err A l (dRun l p ((l.length - p : Nat) : Int))) := by
  have HL := Lib.hid (left_any g c p err A l w.drew h.drew)
  have HU : Hid (∀ W, Rd W g A c l p err → Calls Try.prog 140 #[.pointer (some ⟨g, 0, none⟩), .int .i64 ((l.length - p : Nat) : Int)] W (DLp 5 bv W g c err A l (dRun l p ((l.length - p : Nat) : Int)))) := fun W hW => run_d g c p err A l _ W hW
  have HRD := Lib.hid h
  have hbxk : ∀ k, (w.drew.drewN k).cell? ⟨bx, 0, none⟩ = some (.pointer (some ⟨g, 0, none⟩)) := fun k => hbx
  have hr0 : ∃ bs q, dRun l p ((l.length - p : Nat) : Int) = .ok bs q := by
    unfold dRun
    rw [if_neg (by omega), if_neg (by omega)]
    exact ⟨_, _, rfl⟩
  obtain ⟨bs, q, hrq⟩ := hr0
  rw [hrq] at HU ⊢
  clear hrq
  generalize l.length - p = m at *
  clear h
  go_enter Try.func144, Try.ntmps144
  go_wp2_with fail
  go_region_with (first
    | (go_at_call 55; refine HL.out.mono ?_; rintro e w1 ⟨rfl, k, rfl⟩)
    | (go_at_call 140; refine (HU.out _ (by first | exact HRD.out.drew.drewN _ | exact HRD.out.drewN _ | exact HRD.out.drew)).mono ?_; rintro e w2 ⟨v, rfl, ho, hr, hg⟩; have HG0 : Hid (w.grownBy w2 (some g)) := (by first | exact grown_trans (grown_trans (grown_of_below ((Below.refl w.heap.size w).drew) (some g)) (grown_draws _ _ _)) hg | exact grown_trans (grown_draws _ _ _) hg | exact grown_trans (grown_of_below ((Below.refl w.heap.size w).drew) (some g)) hg); have HO : Hid (w2.ownsRow w.heap.size 5 1 v bs.length (bs.map bv)) := ho; have HR := Lib.hid hr; have HG := Lib.hid hg; clear ho hr hg))
  all_goals
    go_wp2_with fail
    go_ret2
    exact ⟨_, rfl, HO.out, HR.out, HG0.out⟩

set_option maxRecDepth 100000 in
set_option maxHeartbeats 4000000 in
theorem rRest_any (g c p : Nat) (A : Option Addr) (l : List UInt8)  (w : World) (h : Rd w g A c l p 0) :
    Calls Try.prog 70 #[.pointer (some ⟨g, 0, none⟩)] w (RLp 5 bv w g c A l p (dRun l p ((l.length - p : Nat) : Int))) := by
  have c2 := h.c2
  have c0 := h.c0
  have c1 := h.c1
  have hlt := h.lt
  have HRD := Lib.hid h
  have HD : Hid (∀ W bx, Rd W g A c l p 0 → W.cell? ⟨bx, 0, none⟩ = some (.pointer (some ⟨g, 0, none⟩)) → Calls Try.prog 144 #[.pointer (some ⟨bx, 0, none⟩)] W (DLp 5 bv W g c 0 A l (dRun l p ((l.length - p : Nat) : Int)))) := fun W bx h hbx => cRest_any bx g c p 0 A l  W h hbx
  clear h
  generalize dRun l p ((l.length - p : Nat) : Int) = r at *
  go_enter Try.func70, Try.ntmps70
  go_wp2_with (first | (go_at_call 144; refine (HD.out _ _ (HRD.out.alloc _ |>.alloc _) (by simp; done)).mono ?_) | go_in)
  intro e w1 hp
  cases r with
  | ok x q =>
    obtain ⟨v, rfl, ho, hr, hg⟩ := hp
    have HO : Hid (w1.ownsRow w.heap.size 5 1 v x.length (x.map bv)) := row_lower ho (by simp; omega)
    have HR := Lib.hid hr
    have HG := Lib.hid hg
    clear ho hr hg
    go_wp2_with fail
    go_ret
    exact ⟨v, rfl, HO.out, HR.out, grown_trans (grown_two _ _ _ _) HG.out⟩
  | bad er =>
    obtain ⟨y, q, rfl, her, hr, hg⟩ := hp
    have hb : w1.heap[w.heap.size + 1]? = _ := (hg.block (w.heap.size + 1) (by simp) (by intro e; injection e with e; omega)).trans (two_blk _ _ _ _)
    have s0 : w1.cell? ⟨w.heap.size + 1, 0, none⟩ = some (.slice A l.length c) := cell_of_row w1 _ 0 _ _ _ hb
    have s1 : w1.cell? ⟨w.heap.size + 1, 1, none⟩ = some (.int .i64 (p : Int)) := cell_of_row w1 _ 1 _ _ _ hb
    have hne : ((er : Int) != 0) = true := by rw [bne_iff_ne]; omega
    have f0 := hr.free 0
    have f1 := hr.free 1
    have f2 := hr.free 2
    have d0 := hr.c0
    have d1 := hr.c1
    have d2 := hr.c2
    have HR := Lib.hid (hr.back HRD.out.pos er)
    have HG := Lib.hid hg
    clear hr hg hb HD HRD c0 c1 c2
    go_wp2_with fail
    go_ret
    exact ⟨rfl, HR.out, grown_trans (grown_trans (grown_two _ _ _ _) HG.out) (grown_back _ _ _ _)⟩
end Go.Proofs.Ytgbdgpacnpeahaa
