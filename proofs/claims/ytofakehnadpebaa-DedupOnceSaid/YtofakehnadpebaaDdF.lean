/-
  What dedup.New, (*dedup.Table).Next and (*dedup.Table).Stable do; two records of chapter 7's example.
-/
import Derived.Test.YtofakehnadpebaaDdE
namespace Go.Proofs.Ytofakehnadpebaa
open Go.RowKit Go.Maps
set_option linter.unusedVariables false
set_option linter.unusedSimpArgs false

set_option maxRecDepth 100000 in
set_option maxHeartbeats 1000000 in
theorem dnew_any (most : Int) (w : World) (h1 : 1 ≤ most) (h2 : most ≤ 4096) :
    Calls Try.prog 31 #[.int .i64 most] w fun e w' => ∃ g m, e = .returned (.tuple #[.pointer (some ⟨g, 0, none⟩), .int .i64 0]) ∧ Tb w' g m most 0 [] ∧ w.heap.size ≤ g ∧ w.heap.size ≤ m ∧ Below w.heap.size w w' := by
  have hm := Mi.made (kf := Rw.pid) (vf := Rw.val) (P := Try.prog) (kt := 2) w
  have HM := Lib.hid (hm.kept (((Below.refl (w.alloc (.map #[] 0)).heap.size (w.alloc (.map #[] 0))).alloc (Nat.le_refl _) (.cells #[.int .i64 most, .int .i64 0, .map (some w.heap.size)] 91)).block w.heap.size (by simp)))
  have hg := heap_alloc_new (w.alloc (.map #[] 0)) (.cells #[.int .i64 most, .int .i64 0, .map (some w.heap.size)] 91)
  rw [World.size_alloc] at hg
  have HG := Lib.hid hg
  clear hm hg
  have e1 : decide (most < 1) = false := by simp; omega
  have e2 : decide (4096 < most) = false := by simp; omega
  have hmm := @run_makeMap Try.prog
  go_enter Try.func31, Try.ntmps31
  go_wp2_with fail
  go_ret2
  exact ⟨_, _, rfl, ⟨HG.out, HM.out, fun r hr => by cases hr⟩, by omega, Nat.le_refl _, ((Below.refl _ _).alloc (Nat.le_refl _) _).alloc (by simp) _⟩
set_option maxRecDepth 100000 in
theorem dnext_any (g m : Nat) (most next : Int) (L : List Rw) (w : World) (hT : Tb w g m most next L) : Calls Try.prog 27 #[.pointer (some ⟨g, 0, none⟩)] w fun e w' => e = .returned (.int .i64 next) ∧ w = w' := by
  have c1 : w.cell? ⟨g, 1, none⟩ = some (.int .i64 next) := cell_of_row w g 1 _ _ _ hT.t
  clear hT
  go_enter Try.func27, Try.ntmps27
  go_wp2
  go_ret
  exact ⟨rfl, rfl⟩

def twoB (epoch seq base : Int) : Bat := ⟨base, 3, epoch, seq, 1, 0, [⟨⟨#[97]⟩, ⟨#[]⟩, false, 0⟩, ⟨⟨#[98]⟩, ⟨#[]⟩, false, 0⟩]⟩
set_option maxRecDepth 100000 in
set_option maxHeartbeats 1000000 in
theorem two_any (epoch seq base : Int) (w : World) : Calls Try.prog 81 #[.int .i64 epoch, .int .i64 seq, .int .i64 base] w fun e w' => ∃ A, e = .returned (.agg ((twoB epoch seq base).cells A 2)) ∧ Rcs w' w'.heap.size A 2 (twoB epoch seq base).L ∧ Below w.heap.size w w' := by
  go_enter Try.func81, Try.ntmps81
  go_wp2_with fail
  refine bodyPost_ret (v := .agg #[.int .i64 base, .int .i64 3, .int .i64 epoch, .int .i64 seq, .int .i64 1, .int .i64 0, .slice (some ⟨w.heap.size + 1, 0, none⟩) 2 2]) (by simp [results, Try.results81, go_sem, World.cell?_alloc_some]) rfl ?_
  refine ⟨some ⟨w.heap.size + 1, 0, none⟩, rfl, ⟨rfl, ?_, ?_⟩, ((Below.refl _ _).alloc (Nat.le_refl _) _).alloc (by simp) _⟩
  · have h := Lies.of_new (w.alloc (.cells #[.int .i64 base, .int .i64 3, .int .i64 epoch, .int .i64 seq, .int .i64 1, .int .i64 0, .slice (some ⟨w.heap.size + 1, 0, none⟩) 2 2] 26)) #[.string ⟨#[97]⟩, .string ⟨#[]⟩, .bool false, .int .i64 0, .string ⟨#[98]⟩, .string ⟨#[]⟩, .bool false, .int .i64 0] 41
    rw [show (w.alloc (.cells #[.int .i64 base, .int .i64 3, .int .i64 epoch, .int .i64 seq, .int .i64 1, .int .i64 0, .slice (some ⟨w.heap.size + 1, 0, none⟩) 2 2] 26)).heap.size = w.heap.size + 1 from by simp] at h
    exact h.wider (by simp)
  · intro r hr
    simp only [twoB, List.mem_cons, List.not_mem_nil, or_false] at hr
    rcases hr with rfl | rfl <;> (unfold i64_; simp only; omega)

/-- a range's step over a map of things -/
theorem wpList_next_Mi {α : Type} {kf : α → Int} {vf : α → Value} {P : Program} (w : World) {ops : Array Oper} {rest : List Oper} {o : Oper} {a : Act} {Q : Exit → Act → World → Prop} (hg : o.guard = none) (it : Operand) (hop : o.op = Op.next it false)
    (kt : TypeId) (K : Keyed P kt) (hk : P.underlying kt = some (.int .i64)) (b r n : Nat) (L : List α) (left : Lit → Bool) (cnt : Nat) (hit : a.eval it = .pointer (some ⟨r, 0, none⟩)) (h : w.ranges P kt heldE b r n (mapD kf vf L) left cnt)
    (hDone : (∀ kl, left kl = false) → wpList P ops Q rest (a.put o.dst (.tuple #[.bool false])) w)
    (hMore : ∀ (x : α) (w' : World) (cnt' : Nat), x ∈ L → getL kf L (kf x) = some x → left (.int .i64 (kf x)) = true → w'.ranges P kt heldE b r n (mapD kf vf L) (fun z => left z && !z.sameKey (.int .i64 (kf x))) cnt' → cnt' < cnt → w.grownBy w' (some r) → w'.heap.size = w.heap.size →
      (Instr.entry (.pointer (some ⟨r, 0, none⟩))).run P w' = .ok (.tuple #[.int .i64 (kf x), vf x]) w' → wpList P ops Q rest (a.put o.dst (.tuple #[.bool true, .int .i64 (kf x), vf x])) w') :
    wpList P ops Q (o :: rest) a w := by
  refine wpList_plain hg fun K' hK' => ?_
  unfold Oper.wp
  rcases h.next K o.type with ⟨h0, hl, hrun⟩ | ⟨key, v, kl, y, w', cnt', hkey, hlk, hv, hat, hrun, hrg, hlt, hgr, hsz, hen⟩
  · simp [execOp, hop, hit, hrun, Result.andThen]
    exact hK' _ _ (hDone hl)
  · obtain ⟨x, rfl, rfl, _⟩ := keyOf_int_inv hk hkey
    have hy := heldE_inv hv
    subst hy
    have h1 := hat .nil
    rw [atKey_mapD] at h1
    cases hgx : getL kf L x with
    | none => rw [hgx] at h1; cases h1
    | some t =>
      rw [hgx] at h1
      simp only [DataW.held.injEq] at h1
      have hkx := getL_key kf hgx
      subst h1
      subst hkx
      simp [execOp, hop, hit, hrun, Result.andThen]
      exact hK' _ _ (hMore t w' cnt' (getL_mem kf hgx) hgx hlk hrg hlt hgr hsz hen)
theorem dgrown_of_below {w w' : World} (h : Below w.heap.size w w') : w.grownBy w' none := ⟨h.os, h.tape, h.output, h.size, fun i hi _ => h.block i hi⟩
theorem dbelow_of_grown {w w' w'' : World} {r : Nat} (h : Below w.heap.size w w') (k : w'.grownBy w'' (some r)) (hr : w.heap.size ≤ r) : Below w.heap.size w w'' :=
  ⟨k.os.trans h.os, k.tape.trans h.tape, k.output.trans h.output, Nat.le_trans h.size k.size, fun i hi => (k.block i (Nat.lt_of_lt_of_le hi h.size) (fun e => by injection e with e; omega)).trans (h.block i hi)⟩

/-- the stable offset -/
structure IsStab (s next : Int) (L : List Rw) : Prop where
  le : s ≤ next
  rows : ∀ r ∈ L, openR r = true → s ≤ r.frm
  is : s = next ∨ ∃ r ∈ L, openR r = true ∧ s = r.frm
theorem IsStab.unique {s t next : Int} {L : List Rw} (h : IsStab s next L) (k : IsStab t next L) : s = t := by
  have a : s ≤ t := by
    rcases k.is with e | ⟨r, hr, ho, e⟩
    · have := h.le; omega
    · have := h.rows r hr ho; omega
  have b : t ≤ s := by
    rcases h.is with e | ⟨r, hr, ho, e⟩
    · have := k.le; omega
    · have := k.rows r hr ho; omega
  omega
/-- .. under way -/
structure Stabs (s next : Int) (L : List Rw) (left : Lit → Bool) : Prop where
  le : s ≤ next
  rows : ∀ r ∈ L, openR r = true → left (.int .i64 r.pid) = false → s ≤ r.frm
  is : s = next ∨ ∃ r ∈ L, openR r = true ∧ s = r.frm
theorem Stabs.step {s next : Int} {L : List Rw} {left : Lit → Bool} (h : Stabs s next L left) (hL : Rise Rw.pid L) (x : Rw) (hx : x ∈ L) : Stabs (if openR x then min s x.frm else s) next L (fun z => left z && !z.sameKey (.int .i64 x.pid)) := by
  have hr : ∀ r ∈ L, (left (.int .i64 r.pid) && !(Lit.int .i64 r.pid).sameKey (.int .i64 x.pid)) = false → left (.int .i64 r.pid) = false ∨ r = x := fun r hr h1 => by
    rw [same_int] at h1
    by_cases e : r.pid = x.pid
    · right
      have h2 := getL_of_mem Rw.pid hL hr
      rw [e, getL_of_mem Rw.pid hL hx] at h2
      injection h2 with h2
      exact h2.symm
    · left; simpa [e] using h1
  cases ho : openR x with
  | true =>
    simp only [if_true]
    refine ⟨by have := h.le; omega, fun r hr1 h1 h2 => ?_, ?_⟩
    · rcases hr r hr1 h2 with h3 | rfl
      · have := h.rows r hr1 h1 h3; omega
      · omega
    · by_cases hlt : s ≤ x.frm
      · rw [show min s x.frm = s by omega]; exact h.is
      · exact .inr ⟨x, hx, ho, by omega⟩
  | false =>
    simp only [Bool.false_eq_true, if_false]
    refine ⟨h.le, fun r hr1 h1 h2 => ?_, h.is⟩
    rcases hr r hr1 h2 with h3 | rfl
    · exact h.rows r hr1 h1 h3
    · rw [ho] at h1; cases h1

set_option maxRecDepth 100000 in
set_option maxHeartbeats 4000000 in
theorem stable_any (g m : Nat) (most next : Int) (L : List Rw) (w : World) (hT : Tb w g m most next L) :
    Calls Try.prog 26 #[.pointer (some ⟨g, 0, none⟩)] w fun e w' => ∃ s, e = .returned (.int .i64 s) ∧ IsStab s next L ∧ Below w.heap.size w w' := by
  have c1 : w.cell? ⟨g, 1, none⟩ = some (.int .i64 next) := cell_of_row w g 1 _ _ _ hT.t
  have c2 : w.cell? ⟨g, 2, none⟩ = some (.map (some m)) := cell_of_row w g 2 _ _ _ hT.t
  obtain ⟨n, hn, hown⟩ := hT.mi.own
  have HR := Lib.hid hT.mi.rise
  have hml := hT.mi.lt
  clear hT
  go_enter Try.func26, Try.ntmps26
  go_wp2_with (first
    | (at_range; refine wpList_range_own _ rfl _ 89 rfl 2 52 law64 Try.underlying89 _ m n _ rfl hown ?_; intro w0 hrg0 hg0 hs0)
    | go_in)
  go_frame
  clear hown
  go_loopw [3] (fun s wr => ∃ (sv : Int) (left : Lit → Bool) (cnt : Nat), s = .int .i64 sv ∧ Hid (Stabs sv next L left) ∧ Hid (wr.ranges Try.prog 2 heldE m w.heap.size n (mapD Rw.pid Rw.val L) left cnt) ∧ Hid (Below w.heap.size w wr)) (fun _ wr => wr.rangeLeft m w.heap.size)
  case atStart =>
    refine ⟨_, _, _, rfl, ⟨Int.le_refl _, fun r hr _ h => ?_, .inl rfl⟩, hrg0, ⟨hg0.os, hg0.tape, hg0.output, hg0.size, fun i hi => hg0.block i hi (by simp)⟩⟩
    rw [has_mapD, getL_of_mem Rw.pid HR.out hr] at h
    cases h
  case round =>
    obtain ⟨sv, left, cnt, rfl, HS, HG, HB⟩ := hrel
    go_wp2_with (first
      | (at_next; refine wpList_next_Mi _ rfl _ rfl 2 law64 Try.underlying2 m w.heap.size n L left cnt rfl HG.out ?_ ?_)
      | go_in)
    · intro hl0
      go_wp2_with fail
      go_ret
      exact ⟨_, rfl, ⟨HS.out.le, fun r hr ho => HS.out.rows r hr ho (hl0 _), HS.out.is⟩, HB.out⟩
    · intro x w1 cnt1 hx _ hlx hrg1 hlt hg1 hs1 hen
      have HST := Lib.hid (HS.out.step HR.out x hx)
      have HO : Hid (∀ W, Calls Try.prog 66 #[x.val] W fun e w' => e = .returned (.bool (openR x)) ∧ Below W.heap.size W w') := fun W => open_any x W
      have HG1 := Lib.hid hrg1
      have HB1 := Lib.hid (dbelow_of_grown HB.out hg1 (Nat.le_refl _))
      have HLT := Lib.hid hlt
      have HGE := Lib.hid (HG.out.left_eq)
      clear hrg1 hlt hg1 hx hlx
      generalize openR x = ox at *
      obtain ⟨rp, re, rs, rc, rb, rf, rt⟩ := x
      simp only [Rw.val, Rw.cells] at *
      cases ox with
      | true =>
        go_wp2_with (go_at_call 66; refine (HO.out _).mono ?_; rintro e w2 ⟨rfl, hb2⟩; obtain ⟨hc2, hf2⟩ := bcell hb2)
        have hz := hb2.size
        simp only [World.size_alloc] at hz
        have HB3 := Lib.hid (((HB1.out).alloc (by have := HB.out.size; omega) (.cells #[.int .i64 rp, .int .i64 re, .int .i64 rs, .int .i64 rc, .int .i64 rb, .int .i64 rf, .int .i64 rt] 52)).trans (hb2.mono (by have := HB.out.size; simp; omega)))
        have HG3 := Lib.hid ((HG1.out.alloc (.cells #[.int .i64 rp, .int .i64 re, .int .i64 rs, .int .i64 rc, .int .i64 rb, .int .i64 rf, .int .i64 rt] 52)).kept (dgrown_of_below hb2) (by simp) (by simp))
        go_roundw
        case rel => exact ⟨_, _, cnt1, rfl, HST.out, HG3.out, HB3.out⟩
        case measure => rw [HG3.out.left_eq, HGE.out]; exact HLT.out
      | false =>
        go_wp2_with (go_at_call 66; refine (HO.out _).mono ?_; rintro e w2 ⟨rfl, hb2⟩; obtain ⟨hc2, hf2⟩ := bcell hb2)
        have hz := hb2.size
        simp only [World.size_alloc] at hz
        have HB3 := Lib.hid (((HB1.out).alloc (by have := HB.out.size; omega) (.cells #[.int .i64 rp, .int .i64 re, .int .i64 rs, .int .i64 rc, .int .i64 rb, .int .i64 rf, .int .i64 rt] 52)).trans (hb2.mono (by have := HB.out.size; simp; omega)))
        have HG3 := Lib.hid ((HG1.out.alloc (.cells #[.int .i64 rp, .int .i64 re, .int .i64 rs, .int .i64 rc, .int .i64 rb, .int .i64 rf, .int .i64 rt] 52)).kept (dgrown_of_below hb2) (by simp) (by simp))
        go_roundw
        case rel => exact ⟨_, _, cnt1, rfl, HST.out, HG3.out, HB3.out⟩
        case measure => rw [HG3.out.left_eq, HGE.out]; exact HLT.out
end Go.Proofs.Ytofakehnadpebaa
