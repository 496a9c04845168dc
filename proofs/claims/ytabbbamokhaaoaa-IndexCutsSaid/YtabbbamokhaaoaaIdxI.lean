/-
  What an index's Cut does.
-/
import Derived.Test.YtabbbamokhaaoaaIdxH
import Derived.Deep.RegionWith
namespace Go.Proofs.Ytabbbamokhaaoaa
open Go.RowKit
set_option linter.unusedVariables false
set_option linter.unusedSimpArgs false

theorem Ix.two {w : World} {base g : Nat} {v : Value} {x : Idx} (h : Ix w base g v x) (o p : Int) : Ix ((w.setCell ⟨g, 2, none⟩ (.int .i64 o)).setCell ⟨g, 3, none⟩ (.int .i64 p)) base g v ⟨x.gap, x.L, o, p, x.lat⟩ :=
  ⟨set_cell _ (set_cell _ h.blk), ((But.set (g := g) (k := none) _ 3 _).row ((But.set (g := g) (k := none) w 2 _).row h.own h.ne (by cases hv : v.ownBlock <;> simp)) h.ne (by cases hv : v.ownBlock <;> simp)), h.ne, h.lo⟩
theorem But.two (g : Nat) (k : Option Nat) (w : World) (o p : Value) : But g k w ((w.setCell ⟨g, 2, none⟩ o).setCell ⟨g, 3, none⟩ p) :=
  (But.set w 2 o).trans (But.set _ 3 p) (Newer.refl _ _)
/-- the first r entries, in the same block -/
theorem Ix.cut {w : World} {base g n c r : Nat} {A : Option Addr} {x : Idx} (h : Ix w base g (.slice A n c) x) (hr : r ≤ x.L.length) : Ix (w.setCell ⟨g, 1, none⟩ (.slice A r c)) base g (.slice A r c) ⟨x.gap, x.L.take r, x.off, x.pl, x.lat⟩ := by
  have ho : (Value.slice A r c).ownBlock = (Value.slice A n c).ownBlock := by cases A <;> rfl
  have hl : (x.L.take r).length = r := by rw [List.length_take]; omega
  refine ⟨set_cell _ h.blk, (But.set (g := g) (k := none) w 1 _).row ?_ (by rw [ho]; exact h.ne) (by cases hv : (Value.slice A r c).ownBlock <;> simp), by rw [ho]; exact h.ne, h.lo⟩
  show w.ownsRow base _ 3 _ (x.L.take r).length (ecells (x.L.take r))
  rw [hl]
  have hn := h.own
  refine ⟨by rw [ecells_length, hl], ?_⟩
  rcases hn.2 with ⟨h1, hz⟩ | ⟨b, cap, cur, hv, hb, hh, hnc, hm, hs, ht⟩
  · injection h1 with h1 h2 h3
    subst h1 h3
    exact .inl ⟨by rw [show r = 0 by omega], by omega⟩
  · injection hv with h1 h2 h3
    subst h1 h3
    refine .inr ⟨b, c, cur, rfl, hb, hh, by omega, hm, hs, ?_⟩
    rw [← ecells_take x.L r hr, ← ht, List.take_take]
    congr 1
    omega

set_option maxRecDepth 100000 in
set_option maxHeartbeats 4000000 in
theorem cut_no (g : Nat) (o : Int) (w : World) (h : o < 0 ∨ 1099511627776 < o) :
    Calls Try.prog 23 #[.pointer (some ⟨g, 0, none⟩), .int .i64 o] w fun e w' => e = .returned (.int .i64 2) ∧ Below w.heap.size w w' := by
  have HZ : Hid (∀ W, Calls Try.prog 57 #[.int .i64 1099511627776, .int .i64 o] W fun e w' => e = .returned (.bool false) ∧ W = w') := fun W => by
    have := ifrom0_any 1099511627776 o W
    rw [show ifz 1099511627776 o = false from by
      cases e : ifz 1099511627776 o with
      | false => rfl
      | true => have := (ifz_iff _ _).1 e; omega] at this
    exact this
  clear h
  go_enter Try.func23, Try.ntmps23
  go_wp2_with (go_at_call 57; refine (HZ.out _).mono ?_; rintro e w1 ⟨rfl, rfl⟩)
  go_ret
  exact ⟨rfl, (Below.refl _ _).alloc (Nat.le_refl _) _⟩

set_option maxRecDepth 100000 in
set_option maxHeartbeats 4000000 in
theorem cut_ok (base g : Nat) (v : Value) (x : Idx) (o : Int) (w : World) (hx : Ix w base g v x) (hL : x.L.length ≤ 1000000) (hs : Srt x) (h1 : 0 ≤ o) (h2 : o ≤ 1099511627776) :
    Calls Try.prog 23 #[.pointer (some ⟨g, 0, none⟩), .int .i64 o] w fun e w' => e = .returned (.int .i64 0) ∧ ∃ r v', Upto (below_ o) x.L r ∧ Ix w' base g v' (x.cutAt r) ∧ But g none w w' ∧ v'.ownBlock = v.ownBlock := by
  have HZ : Hid (∀ W, Calls Try.prog 57 #[.int .i64 1099511627776, .int .i64 o] W fun e w' => e = .returned (.bool true) ∧ W = w') := fun W => by
    have := ifrom0_any 1099511627776 o W
    rw [(ifz_iff _ _).2 ⟨h1, h2⟩] at this
    exact this
  obtain ⟨A, c, rfl, hc, hm, _, _⟩ := own_form hx.own
  have hal := (Below.refl w.heap.size w).alloc (Nat.le_refl _) (.cells #[.int .i64 o] 2)
  have hk0 := cell_of_row _ _ 0 _ _ _ (heap_alloc_new w (.cells #[.int .i64 o] 2))
  have hz1 : (w.alloc (.cells #[.int .i64 o] 2)).heap.size = w.heap.size + 1 := by simp
  have hx1 := hx.below hal (Nat.le_refl _)
  have hgl := hx.lt
  have eg : ∀ args w, (callFunc 59 args).run Try.prog w = .ok (.enter 59 args) w := enters_of Try.func59 (by kernel_rfl) rfl
  generalize hw1 : w.alloc (.cells #[.int .i64 o] 2) = w1 at *
  have HC : Hid (∀ W : World, Below w1.heap.size w1 W → Calls Try.prog 58 #[.pointer (some ⟨g, 0, none⟩), .func (.func 59) #[] #[.pointer (some ⟨w.heap.size, 0, none⟩)]] W fun e w' => ∃ r : Nat, e = .returned (.int .i64 r) ∧ Upto (below_ o) x.L r ∧ Below W.heap.size W w') := fun W hB =>
    count_any base g 59 #[.pointer (some ⟨w.heap.size, 0, none⟩)] (.slice A x.L.length c) x (below_ o) W (hx1.below hB (Nat.le_refl _)) eg ((cut1_any w.heap.size o w1 (by omega) hk0).mono hB) hL (fun a b ha hb hp => hs.below_ o a b ha hb hp)
  have HX1 := Lib.hid hx1
  have HB1 := Lib.hid hal
  have HR1 := Lib.hid (Below.refl w1.heap.size w1)
  have hg1 : g < w1.heap.size := by omega
  have c1 := hx1.c1
  have f1 := hx1.free 1
  have hLz : (x.L.length : Int) ≤ 1000000 := by omega
  clear hx hx1 hal eg hs
  go_enter Try.func23, Try.ntmps23
  go_upto_region 5 with (go_at_call 57; refine (HZ.out _).mono ?_; rintro e w1 ⟨rfl, rfl⟩)
  go_cut [23] (fun s23 wx => ∃ r, Upto (below_ o) x.L r ∧ Ix wx base g (.slice A r c) ⟨x.gap, x.L.take r, x.off, x.pl, x.lat⟩ ∧ But g none w wx)
  case first =>
    go_region_with (go_at_call 58; refine Calls.mono (HC.out _ ?_) ?_; (exact ⟨rfl, rfl, rfl, Nat.le_refl _, fun _ _ => rfl⟩); rintro e w3 ⟨r, rfl, hU, hb3⟩; have hb3' : Below w1.heap.size w1 w3 := ⟨hb3.os, hb3.tape, hb3.output, hb3.size, fun i hi => hb3.block i hi⟩; have y1 : w3.cell? ⟨g, 1, none⟩ = some (.slice A x.L.length c) := (hb3'.cell (p := ⟨g, 1, none⟩) hg1).trans c1; have z1 : w3.frozen? ⟨g, 1, none⟩ = false := (hb3'.frozen (p := ⟨g, 1, none⟩) hg1).trans f1; have hr := hU.le; have HU := Lib.hid hU; have HB3 := Lib.hid hb3'; clear hU hb3 hb3')
    all_goals (have HI := Lib.hid ((HX1.out.below HB3.out (Nat.le_refl _)).cut hr); have HT := Lib.hid (((But.of_below (g := g) (k := none) HB1.out).trans (But.of_below HB3.out) (Newer.refl _ _)).trans (But.set w3 1 (.slice A r c)) (Newer.refl _ _)); go_wp2_with fail; go_meet; exact ⟨r, HU.out, HI.out, HT.out⟩)
  case rest =>
    obtain ⟨r, hU, hxc, hbt⟩ := hcut
    have hr := hU.le
    have y2 := hxc.c2
    have y3 := hxc.c3
    have g2 := hxc.free 2
    have g3 := hxc.free 3
    have hx6 := hxc.two (-1) (-1)
    have hbt6 := hbt.trans (But.two g none _ (.int .i64 (-1)) (.int .i64 (-1))) (Newer.refl _ _)
    have HU := Lib.hid hU
    have hv : (Value.slice A r c).ownBlock = (Value.slice A x.L.length c).ownBlock := by cases A <;> rfl
    generalize hw6 : (World.setCell _ ⟨g, 2, none⟩ (.int .i64 (-1))).setCell ⟨g, 3, none⟩ (.int .i64 (-1)) = w6 at *
    have k1 := hx6.c1
    have k2 := hx6.c2
    have k3 := hx6.c3
    have j2 := hx6.free 2
    have j3 := hx6.free 3
    have hg6 := hx6.lt
    have hlt : (x.L.take r).length = r := by rw [List.length_take]; omega
    have HV := Lib.hid hv
    have HX6 := Lib.hid hx6
    have HT6 := Lib.hid hbt6
    rcases Nat.eq_zero_or_pos r with h0 | h0
    · subst h0
      have HE : Hid (x.cutAt 0 = ⟨x.gap, x.L.take 0, -1, -1, x.lat⟩) := rfl
      clear hx6 hbt6 hxc hbt hU hv hlt c1 f1
      go_wp2_with fail
      go_ret
      refine ⟨rfl, 0, HU.out, _, ?_, HT6.out, HV.out⟩
      rw [HE.out]; exact HX6.out
    · obtain ⟨b, c2, hv2, hbl, hlc, r0, r1, r2⟩ := hx6.row (k := r - 1) (by rw [hlt]; omega)
      obtain ⟨m, rfl⟩ : ∃ m, r = m + 1 := ⟨r - 1, by omega⟩
      have hd0 : decide ((0 : Int) < ((m + 1 : Nat) : Int)) = true := decide_eq_true (by omega)
      simp only [Nat.add_sub_cancel] at r0 r1 r2
      rw [getD_take _ _ _ (by omega)] at r0 r1 r2
      have HE : Hid (x.cutAt (m + 1) = ⟨x.gap, x.L.take (m + 1), (x.L.getD m default).off, (x.L.getD m default).pl, x.lat⟩) := rfl
      injection hv2 with hA h3 h4
      subst hA h4
      generalize x.L.getD m default = en at *
      obtain ⟨eo, ep, eb⟩ := en
      simp only at r0 r1 r2 HE
      have hbg : b ≠ g := fun e => hx6.ne (by rw [e]; rfl)
      have HX7 := Lib.hid (hx6.two eo ep)
      have HT7 := Lib.hid (hbt6.trans (But.two g none _ (.int .i64 eo) (.int .i64 ep)) (Newer.refl _ _))
      have hmz : (m : Int) < ((m + 1 : Nat) : Int) := by omega
      generalize x.L.take (m + 1) = xt at *
      clear hx6 hbt6 hxc hbt hU hv hlt c1 f1 h3 HX6 HT6
      go_wp2_with fail
      go_region
      all_goals (go_wp2_with fail; go_ret; exact ⟨rfl, m + 1, _, HU.out, by rw [HE.out]; exact HX7.out.heap rfl, HT7.out.trans (But.of_below ⟨rfl, rfl, rfl, Nat.le_refl _, fun _ _ => rfl⟩) (Newer.refl _ _), HV.out⟩)
end Go.Proofs.Ytabbbamokhaaoaa
