/-
  What towpathref03.Piece does.
-/
import Derived.Test.YtkdpfajoeajenaaRecPo
import Derived.BigRegion
import Derived.Deep.RegionLaw
import Derived.Deep.AppendLies
import Derived.Deep.CutBlock
namespace Go.Proofs.Ytkdpfajoeajenaa
open Go.RowKit
set_option linter.unusedVariables false
set_option linter.unusedSimpArgs false

def pieceB (b : Bat) (i j : Nat) : Bat := ⟨b.base + (i : Int), b.pid, b.epoch, if 0 < b.pid then b.seq + (i : Int) else 0, b.kind, b.time, (b.L.take j).drop i⟩
theorem new_cellsR (w : World) (cs : List Value) (e : TypeId) : ∀ j u, cs[j]? = some u → (w.alloc (.cells cs.toArray e)).cell? ((⟨w.heap.size, 0, none⟩ : Addr).add j) = some u := fun j u hj => by
  obtain ⟨q, hq, _, hc⟩ := (Lies.of_new w cs.toArray e).get j u (by simpa using hj)
  injection hq with hq
  subst hq
  exact hc
structure Pw (w wx : World) (bo ro : Obj) (xc : Value → Array Value) (v : Value) (n : Nat) (M : List Rec) : Prop where
  box : wx.heap[w.heap.size]? = some bo
  res : wx.heap[w.heap.size + 1]? = some ro
  x : wx.heap[w.heap.size + 1 + 1]? = some (.cells (xc v) 24 (0, 0))
  own : wx.ownsRow (w.heap.size + 3) 38 4 v n (rcells M)
  below : Below w.heap.size w wx
section
variable {w wx wa w1 : World} {bo ro : Obj} {xc : Value → Array Value} {v v' : Value} {n : Nat} {M : List Rec}
theorem Pw.below_ (h : Pw w wx bo ro xc v n M) (hb : Below wx.heap.size wx wa) : Pw w wa bo ro xc v n M := by
  have l1 := (Array.getElem?_eq_some_iff.1 h.box).1
  have l2 := (Array.getElem?_eq_some_iff.1 h.res).1
  have l3 := (Array.getElem?_eq_some_iff.1 h.x).1
  refine ⟨(hb.block _ l1).trans h.box, (hb.block _ l2).trans h.res, (hb.block _ l3).trans h.x, ?_, h.below.trans (hb.mono h.below.size)⟩
  refine ⟨h.own.1, ?_⟩
  rcases h.own.2 with h2 | ⟨b, cap, cur, rfl, hb', hh, r⟩
  · exact .inl h2
  · exact .inr ⟨b, cap, cur, rfl, hb', (hb.block b (Array.getElem?_eq_some_iff.1 hh).1).trans hh, r⟩
theorem Pw.heap (h : Pw w wx bo ro xc v n M) (W : World) (e : W.heap = wx.heap) (e1 : W.os = wx.os) (e2 : W.tape = wx.tape) (e3 : W.output = wx.output) : Pw w W bo ro xc v n M :=
  h.below_ ⟨e1, e2, e3, by rw [e]; exact Nat.le_refl _, fun i _ => by rw [e]⟩
/-- behind the append of a record -/
theorem Pw.step {r : Rec} (h : Pw w wa bo ro xc v n M) (hx : ∀ a u, (xc a).setIfInBounds 6 u = xc u) (ho : w1.ownsRow (w.heap.size + 3) 38 4 v' (n + 1) (rcells M ++ r.cells)) (hg : wa.grownBy w1 v.ownBlock) (hat : v'.ownBlock = v.ownBlock ∨ v'.ownBlock = some wa.heap.size) :
    Pw w (w1.setCell ⟨w.heap.size + 1 + 1, 6, none⟩ v') bo ro xc v' (n + 1) (M ++ [r]) := by
  have l1 := (Array.getElem?_eq_some_iff.1 h.box).1
  have l2 := (Array.getElem?_eq_some_iff.1 h.res).1
  have l3 := (Array.getElem?_eq_some_iff.1 h.x).1
  have hv := World.ownsRow.lt h.own
  have nb : ∀ k, k ≤ w.heap.size + 1 + 1 → some k ≠ v.ownBlock := fun k hk e => by have := (hv k e.symm).1; omega
  have s1 := hg.block _ l1 (nb _ (by omega))
  have s2 := hg.block _ l2 (nb _ (by omega))
  have s3 := hg.block _ l3 (nb _ (by omega))
  have hn : v'.ownBlock ≠ some (w.heap.size + 1 + 1) := by
    rcases hat with e | e
    · rw [e]; exact fun e2 => nb _ (Nat.le_refl _) e2.symm
    · rw [e]; intro e2; injection e2 with e2; omega
  refine ⟨(Below.heap_setCell w1 _ v' _ (by simp <;> omega)).trans (s1.trans h.box), (Below.heap_setCell w1 _ v' _ (by simp <;> omega)).trans (s2.trans h.res), ?_, ?_, ?_⟩
  · rw [heap_setCell_same w1 _ 6 _ _ v' (s3.trans h.x), hx]
  · refine row_set ?_ hn
    rw [rcells_append]
    simpa [rcells] using ho
  · refine ((h.below.trans ⟨hg.os, hg.tape, hg.output, hg.size, fun i hi => hg.block i (by have := h.below.size; omega) (fun e => by have := (hv i e.symm).1; omega)⟩)).setCell (by show w.heap.size ≤ w.heap.size + 1 + 1; omega) v'
end
theorem drop_take_succ (L : List Rec) (i k : Nat) (h1 : i ≤ k) (h2 : k < L.length) : (L.take (k + 1)).drop i = (L.take k).drop i ++ [L.getD k default] := by
  rw [List.take_succ_eq_append_getElem h2, List.drop_append_of_le_length (by rw [List.length_take]; omega), List.getD_eq_getElem?_getD, List.getElem?_eq_getElem h2]
  rfl

set_option maxRecDepth 100000 in
set_option maxHeartbeats 8000000 in
theorem piece_any (b : Bat) (A : Option Addr) (c B i j : Nat) (w : World) (hL : Rcs w B A b.L.length b.L) (hB : B ≤ w.heap.size) (hl : b.L.length ≤ 64) (hij : i ≤ j) (hj : j ≤ b.L.length) (h1 : 0 ≤ b.base) (h2 : b.base ≤ 1099511627776) (h3 : 0 ≤ b.seq) (h4 : b.seq ≤ 2147483647) :
    Calls Try.prog 33 #[.agg (b.cells A c), .int .i64 i, .int .i64 j] w fun e w' => ∃ A' c', e = .returned (.agg ((pieceB b i j).cells A' c')) ∧ w'.ownsRow w.heap.size 38 4 (.slice A' (j - i) c') (j - i) (rcells (pieceB b i j).L) ∧ (∀ p, A' = some p → w.heap.size ≤ p.block) ∧ Below w.heap.size w w' := by
  obtain ⟨j0, qj0, qy0, qy1, qy2⟩ := info_parts zero_rec
  obtain ⟨base, pid, epoch, seq, kind, time, L⟩ := b
  have hlen : ((L.take j).drop i).length = j - i := by rw [List.length_drop, List.length_take]; simp only at hj; omega
  simp only [Bat.cells, pieceB] at *
  rw [hlen]
  have hsq : ∃ sq : Int, (if 0 < pid then seq + (i : Int) else 0) = sq := ⟨_, rfl⟩
  obtain ⟨sq, hsq⟩ := hsq
  rw [hsq]
  have HSQ := Lib.hid hsq
  clear hsq
  obtain ⟨W0, hW0⟩ : ∃ W0, (w.alloc (.cells #[.int .i64 base, .int .i64 pid, .int .i64 epoch, .int .i64 seq, .int .i64 kind, .int .i64 time, .slice A L.length c] 24)).alloc (.cells #[.int .i64 0, .int .i64 0, .int .i64 0, .int .i64 0, .int .i64 0, .int .i64 0, .slice none 0 0] 24) = W0 := ⟨_, rfl⟩
  have hz0 : W0.heap.size = w.heap.size + 1 + 1 := by rw [← hW0]; simp
  have hB0 : Below w.heap.size w W0 := by rw [← hW0]; exact ((Below.refl _ _).alloc (Nat.le_refl _) _).alloc (by simp) _
  have k1 : W0.heap[w.heap.size]? = some (.cells #[.int .i64 base, .int .i64 pid, .int .i64 epoch, .int .i64 seq, .int .i64 kind, .int .i64 time, .slice A L.length c] 24 (0, 0)) := by
    rw [← hW0, ← heap_alloc_new w (.cells #[.int .i64 base, .int .i64 pid, .int .i64 epoch, .int .i64 seq, .int .i64 kind, .int .i64 time, .slice A L.length c] 24)]
    exact ((Below.refl (w.heap.size + 1) _).alloc (by simp) _).block w.heap.size (by omega)
  have k2 : W0.heap[w.heap.size + 1]? = some (.cells #[.int .i64 0, .int .i64 0, .int .i64 0, .int .i64 0, .int .i64 0, .int .i64 0, .slice none 0 0] 24 (0, 0)) := by
    have h := heap_alloc_new (w.alloc (.cells #[.int .i64 base, .int .i64 pid, .int .i64 epoch, .int .i64 seq, .int .i64 kind, .int .i64 time, .slice A L.length c] 24)) (.cells #[.int .i64 0, .int .i64 0, .int .i64 0, .int .i64 0, .int .i64 0, .int .i64 0, .slice none 0 0] 24)
    rw [show (w.alloc (.cells #[.int .i64 base, .int .i64 pid, .int .i64 epoch, .int .i64 seq, .int .i64 kind, .int .i64 time, .slice A L.length c] 24)).heap.size = w.heap.size + 1 from by simp] at h
    rw [← hW0]; exact h
  have c6 : W0.cell? ⟨w.heap.size, 6, none⟩ = some (.slice A L.length c) := cell_of_row _ _ 6 _ _ _ k1
  have HB0 := Lib.hid hB0
  have K1 := Lib.hid k1
  have K2 := Lib.hid k2
  have HW0 := Lib.hid hW0
  have hx0 : Hid (Pw w (W0.alloc (.cells #[.int .i64 (base + (i : Int)), .int .i64 pid, .int .i64 epoch, .int .i64 0, .int .i64 kind, .int .i64 time, .slice none 0 0] 24)) (.cells #[.int .i64 base, .int .i64 pid, .int .i64 epoch, .int .i64 seq, .int .i64 kind, .int .i64 time, .slice A L.length c] 24 (0, 0)) (.cells #[.int .i64 0, .int .i64 0, .int .i64 0, .int .i64 0, .int .i64 0, .int .i64 0, .slice none 0 0] 24 (0, 0)) (fun u => #[.int .i64 (base + (i : Int)), .int .i64 pid, .int .i64 epoch, .int .i64 0, .int .i64 kind, .int .i64 time, u]) (.slice none 0 0) 0 []) := by
    have hal := (Below.refl W0.heap.size W0).alloc (Nat.le_refl _) (.cells #[.int .i64 (base + (i : Int)), .int .i64 pid, .int .i64 epoch, .int .i64 0, .int .i64 kind, .int .i64 time, .slice none 0 0] 24)
    refine ⟨(hal.block _ (by omega)).trans k1, (hal.block _ (by omega)).trans k2, ?_, World.ownsRow_nil _ _ _ _, hB0.trans (hal.mono (by omega))⟩
    have h := heap_alloc_new W0 (.cells #[.int .i64 (base + (i : Int)), .int .i64 pid, .int .i64 epoch, .int .i64 0, .int .i64 kind, .int .i64 time, .slice none 0 0] 24)
    rw [hz0] at h
    exact h
  have y0 := cell_of_row _ _ 0 _ _ _ k1
  have y1 := cell_of_row _ _ 1 _ _ _ k1
  have y2 := cell_of_row _ _ 2 _ _ _ k1
  have y4 := cell_of_row _ _ 4 _ _ _ k1
  have y5 := cell_of_row _ _ 5 _ _ _ k1
  have HL := Lib.hid hL
  clear hL hB0 k1 k2 hW0 c6
  have hi64 : i ≤ 64 := by omega
  go_enter Try.func33, Try.ntmps33
  go_upto_region 1 with fail
  rw [HW0.out]
  go_upto_region 2 with fail
  generalize W0.alloc (.cells #[.int .i64 (base + (i : Int)), .int .i64 pid, .int .i64 epoch, .int .i64 0, .int .i64 kind, .int .i64 time, .slice none 0 0] 24) = W1 at *
  clear y0 y1 y2 y4 y5
  have y1 := cell_of_row _ _ 1 _ _ _ hx0.out.box
  go_upto_if 24 with fail
  clear y1
  go_cut [29] (fun s29 wx => Hid (Pw w wx (.cells #[.int .i64 base, .int .i64 pid, .int .i64 epoch, .int .i64 seq, .int .i64 kind, .int .i64 time, .slice A L.length c] 24 (0, 0)) (.cells #[.int .i64 0, .int .i64 0, .int .i64 0, .int .i64 0, .int .i64 0, .int .i64 0, .slice none 0 0] 24 (0, 0)) (fun u => #[.int .i64 (base + (i : Int)), .int .i64 pid, .int .i64 epoch, .int .i64 sq, .int .i64 kind, .int .i64 time, u]) (.slice none 0 0) 0 []))
  case first =>
    have y3 := cell_of_row _ _ 3 _ _ _ hx0.out.box
    have x3 := cell_of_row _ _ 3 _ _ _ hx0.out.x
    have fx3 := frozen_of_row _ _ 3 _ _ hx0.out.x
    by_cases hp : 0 < pid
    · have dp : decide (0 < pid) = true := decide_eq_true hp
      have HSQ' := HSQ.out
      rw [if_pos hp] at HSQ'
      subst HSQ'
      have hfin : Hid (Pw w (W1.setCell ⟨w.heap.size + 1 + 1, 3, none⟩ (.int .i64 (seq + (i : Int)))) (.cells #[.int .i64 base, .int .i64 pid, .int .i64 epoch, .int .i64 seq, .int .i64 kind, .int .i64 time, .slice A L.length c] 24 (0, 0)) (.cells #[.int .i64 0, .int .i64 0, .int .i64 0, .int .i64 0, .int .i64 0, .int .i64 0, .slice none 0 0] 24 (0, 0)) (fun u => #[.int .i64 (base + (i : Int)), .int .i64 pid, .int .i64 epoch, .int .i64 (seq + (i : Int)), .int .i64 kind, .int .i64 time, u]) (.slice none 0 0) 0 []) := by
        refine ⟨(Below.heap_setCell W1 _ _ _ (by simp <;> omega)).trans hx0.out.box, (Below.heap_setCell W1 _ _ _ (by simp <;> omega)).trans hx0.out.res, ?_, World.ownsRow_nil _ _ _ _, hx0.out.below.setCell (by show w.heap.size ≤ w.heap.size + 1 + 1; omega) _⟩
        rw [heap_setCell_same W1 _ 3 _ _ _ hx0.out.x]
        rfl
      go_wp2_with fail
      go_meet
      exact hfin
    · have dp : decide (0 < pid) = false := decide_eq_false hp
      have HSQ' := HSQ.out
      rw [if_neg hp] at HSQ'
      subst HSQ'
      go_wp2_with fail
      go_meet
      exact hx0
  case rest =>
    have HX := hcut
    clear hcut hx0
    go_wp2_with fail
    go_loopw [8] (fun kv wx => ∃ k : Nat, i ≤ k ∧ k ≤ j ∧ kv = .int .i64 k ∧ ∃ v, Hid (Pw w wx (.cells #[.int .i64 base, .int .i64 pid, .int .i64 epoch, .int .i64 seq, .int .i64 kind, .int .i64 time, .slice A L.length c] 24 (0, 0)) (.cells #[.int .i64 0, .int .i64 0, .int .i64 0, .int .i64 0, .int .i64 0, .int .i64 0, .slice none 0 0] 24 (0, 0)) (fun u => #[.int .i64 (base + (i : Int)), .int .i64 pid, .int .i64 epoch, .int .i64 sq, .int .i64 kind, .int .i64 time, u]) v (k - i) ((L.take k).drop i))) (fun kv _ => j - (intOf kv).toNat)
    case atStart => exact ⟨i, Nat.le_refl _, hij, rfl, .slice none 0 0, by rw [Nat.sub_self, List.drop_eq_nil_of_le (by rw [List.length_take]; omega)]; exact HX⟩
    case round =>
      obtain ⟨k, hik, hkj, rfl, v, HP⟩ := hrel
      by_cases hlt : k < j
      · obtain ⟨p, hpA, hpb, r0, r1, r2, r3⟩ := (HL.out.below (HP.out.below.mono hB)).row (k := k) (by omega)
        have HTS := Lib.hid (drop_take_succ L i k hik (by omega))
        have hkz : (k : Int) < (L.length : Int) := by omega
        have hkl : k < L.length := by omega
        have b6 : wr.cell? ⟨w.heap.size, 6, none⟩ = some (.slice A L.length c) := cell_of_row _ _ 6 _ _ _ HP.out.box
        rw [hpA] at b6
        clear hpA
        have x6 := cell_of_row _ _ 6 _ _ _ HP.out.x
        have fx6 := frozen_of_row _ _ 6 _ _ HP.out.x
        have hzr : w.heap.size + 1 + 1 < wr.heap.size := (Array.getElem?_eq_some_iff.1 HP.out.x).1
        generalize (L.take k).drop i = M at *
        generalize L.getD k default = r at *
        obtain ⟨key, value, gone, rt⟩ := r
        simp only at r0 r1 r2 r3
        obtain ⟨m, hm⟩ : ∃ m, k - i = m := ⟨_, rfl⟩
        have hm1 : k + 1 - i = m + 1 := by omega
        rw [hm] at HP
        have hml : m ≤ 64 := by omega
        have HM1 := Lib.hid hm1
        clear hm hm1
        have HPA : Hid (∀ W : World, W.heap = (wr.alloc (.cells #[.string key, .string value, .bool gone, .int .i64 rt] 38)).heap → W.os = wr.os → W.tape = wr.tape → W.output = wr.output → Pw w W (.cells #[.int .i64 base, .int .i64 pid, .int .i64 epoch, .int .i64 seq, .int .i64 kind, .int .i64 time, .slice A L.length c] 24 (0, 0)) (.cells #[.int .i64 0, .int .i64 0, .int .i64 0, .int .i64 0, .int .i64 0, .int .i64 0, .slice none 0 0] 24 (0, 0)) (fun u => #[.int .i64 (base + (i : Int)), .int .i64 pid, .int .i64 epoch, .int .i64 sq, .int .i64 kind, .int .i64 time, u]) v m M) := fun W e e1 e2 e3 => (HP.out.below_ ((Below.refl _ _).alloc (Nat.le_refl _) (.cells #[.string key, .string value, .bool gone, .int .i64 rt] 38))).heap W e e1 e2 e3
        have ng1 : ∀ q cs, ((wr.drewN q).alloc (.cells cs 38)).cell? ⟨w.heap.size + 1 + 1, 6, none⟩ = some v := fun q cs => (World.cell?_alloc_lt _ _ _ (by exact hzr)).trans x6
        have hvn : some (w.heap.size + 1 + 1) ≠ v.ownBlock := fun e => by have := (World.ownsRow.lt HP.out.own _ e.symm).1; omega
        have HVN := Lib.hid hvn
        clear hvn
        go_upto_block 1 with fail
        go_cut [45] (fun s45 wx => ∃ v', Hid (Pw w wx (.cells #[.int .i64 base, .int .i64 pid, .int .i64 epoch, .int .i64 seq, .int .i64 kind, .int .i64 time, .slice A L.length c] 24 (0, 0)) (.cells #[.int .i64 0, .int .i64 0, .int .i64 0, .int .i64 0, .int .i64 0, .int .i64 0, .slice none 0 0] 24 (0, 0)) (fun u => #[.int .i64 (base + (i : Int)), .int .i64 pid, .int .i64 epoch, .int .i64 sq, .int .i64 kind, .int .i64 time, u]) v' (m + 1) (M ++ [⟨key, value, gone, rt⟩])))
        case first =>
          go_wp2_with fail
          go_region_law (refine step_append_lies _ (by rfl) (.tmp 37) (.tmp 43) 22 (by rfl) (w.heap.size + 3) 38 j0 _ 4 48 Try.underlying22 qj0 qy0 qy1 qy2 (by rfl) (by decide) v m (rcells M) (by rfl) (HPA.out _ (by rfl) (by rfl) (by rfl) (by rfl)).own ⟨wr.heap.size, 0, none⟩ 1 1 [.string key, .string value, .bool gone, .int .i64 rt] (by rfl) (by rfl) (new_cellsR _ [.string key, .string value, .bool gone, .int .i64 rt] _) (by simp [Value.oneCell']) (by omega) (by unfold maxLen; omega) (by omega) (by simp; omega) (wr.heap.size + 1) (by simp) ?_; intro gg cap w1 hown1 hgrow hat hlt'; have y6' := (hgrow.cell_far ⟨w.heap.size + 1 + 1, 6, none⟩ (by show _ < _; simp; omega) HVN.out).trans (cell_of_row _ _ 6 _ _ _ (HPA.out _ (by rfl) (by rfl) (by rfl) (by rfl)).x); have f6' := (hgrow.frozen_far ⟨w.heap.size + 1 + 1, 6, none⟩ (by show _ < _; simp; omega) HVN.out).trans (frozen_of_row _ _ 6 _ _ (HPA.out _ (by rfl) (by rfl) (by rfl) (by rfl)).x); have HS1 := Lib.hid ((HPA.out _ (by rfl) (by rfl) (by rfl) (by rfl)).step (r := ⟨key, value, gone, rt⟩) (v' := .slice (some ⟨gg, 0, none⟩) (m + 1) cap) (fun _ _ => rfl) hown1 hgrow (by simpa [Value.ownBlock, eq_comm] using hat)); clear hgrow hown1)
          all_goals (go_wp2_with fail; go_meet; exact ⟨_, HS1⟩)
        case rest =>
          obtain ⟨v', HP2⟩ := hcut
          go_wp2_with fail
          go_roundw
          case rel => exact ⟨k + 1, by omega, by omega, by go_num, v', by rw [HM1.out, HTS.out]; exact HP2⟩
          case measure => simp [intOf]; omega
      · obtain rfl : k = j := by omega
        have d8 : decide ((k : Int) < (k : Int)) = false := by simp
        have x0 := cell_of_row _ _ 0 _ _ _ HP.out.x
        have x1 := cell_of_row _ _ 1 _ _ _ HP.out.x
        have x2 := cell_of_row _ _ 2 _ _ _ HP.out.x
        have x3 := cell_of_row _ _ 3 _ _ _ HP.out.x
        have x4 := cell_of_row _ _ 4 _ _ _ HP.out.x
        have x5 := cell_of_row _ _ 5 _ _ _ HP.out.x
        have x6 := cell_of_row _ _ 6 _ _ _ HP.out.x
        have d0 := cell_of_row _ _ 0 _ _ _ HP.out.res
        have g0 := frozen_of_row _ _ 0 _ _ HP.out.res
        have d1 := cell_of_row _ _ 1 _ _ _ HP.out.res
        have g1 := frozen_of_row _ _ 1 _ _ HP.out.res
        have d2 := cell_of_row _ _ 2 _ _ _ HP.out.res
        have g2 := frozen_of_row _ _ 2 _ _ HP.out.res
        have d3 := cell_of_row _ _ 3 _ _ _ HP.out.res
        have g3 := frozen_of_row _ _ 3 _ _ HP.out.res
        have d4 := cell_of_row _ _ 4 _ _ _ HP.out.res
        have g4 := frozen_of_row _ _ 4 _ _ HP.out.res
        have d5 := cell_of_row _ _ 5 _ _ _ HP.out.res
        have g5 := frozen_of_row _ _ 5 _ _ HP.out.res
        have d6 := cell_of_row _ _ 6 _ _ _ HP.out.res
        have g6 := frozen_of_row _ _ 6 _ _ HP.out.res
        obtain ⟨A2, c2, rfl, h21, h22⟩ := row_shape HP.out.own
        have hlt2 := World.ownsRow.lt HP.out.own
        have HN2 : Hid ((Value.slice A2 (k - i) c2).ownBlock ≠ some (w.heap.size + 1)) := fun e => by have := (hlt2 _ e).1; omega
        have HO := Lib.hid (row_base HP.out.own (base' := w.heap.size) (by omega))
        have HA2 : Hid (∀ p, A2 = some p → w.heap.size ≤ p.block) := fun p e => by have := (hlt2 p.block (by rw [e]; rfl)).1; omega
        obtain ⟨m, hm⟩ : ∃ m, k - i = m := ⟨_, rfl⟩
        rw [hm] at HO HN2 x6
        have HBW := Lib.hid HP.out.below
        have HM := Lib.hid hm
        clear hlt2 HP hm
        go_wp2_with fail
        refine bodyPost_ret (v := .agg #[.int .i64 (base + (i : Int)), .int .i64 pid, .int .i64 epoch, .int .i64 sq, .int .i64 kind, .int .i64 time, .slice A2 m c2]) (by simp [results, Try.results33, go_sem, d0, d1, d2, d3, d4, d5, d6]) rfl ?_
        refine ⟨A2, c2, by rw [HM.out], ?_, HA2.out, ?_⟩
        · rw [HM.out]
          repeat refine row_set ?_ HN2.out
          exact HO.out
        · repeat refine Below.setCell ?_ (by simp) _
          exact HBW.out
end Go.Proofs.Ytkdpfajoeajenaa
