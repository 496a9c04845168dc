/-
  A file that is made.
-/
import Derived.Test.YtebkgcnldbkgeaaDkF
namespace Go.Proofs.Ytebkgcnldbkgeaa
open Go.RowKit Go.Lib Go.Sort Go.Maps
set_option linter.unusedVariables false
set_option linter.unusedSimpArgs false

theorem insT_perm {α : Type} (kf : α → List UInt8) (r : α) (L : List α) : (insT kf r L).Perm (r :: L) := by
  induction L with
  | nil => exact List.Perm.refl _
  | cons y l ih =>
    unfold insT
    split
    · exact List.Perm.refl _
    · exact (ih.cons y).trans (List.Perm.swap r y l)
theorem used_perm {H H' : List Hd} (h : H.Perm H') : usedH H = usedH H' := (h.map _).sum_nat
theorem pair_ins {H : List Hd} {f : Hd} (hn : H.Pairwise Apart) (hf : ∀ x ∈ H, Apart f x) : (insT Hd.key f H).Pairwise Apart :=
  ((insT_perm Hd.key f H).pairwise_iff (fun {a b} hab => hab.symm)).2 (List.pairwise_cons.2 ⟨hf, hn⟩)
section
variable {w w' : World} {base d : Nat} {D : Dsk}
theorem Dk.ins (h : Dk w base d D) {f : Hd} {m : Nat} (hM : base ≤ m ∧ Mt Hd.key Hd.ptr Try.prog 9 w' m (insT Hd.key f D.H))
    (hblk : w'.heap[d]? = some (.cells #[.map (some m), .int .i64 D.room, .bool D.set, .int .i64 D.left] 59 (0, 0))) (hnew : FileAt w' base f) (hfb : w.heap.size ≤ f.fb) (hvb : f.v.ownBlock = none ∨ ∃ g, f.v.ownBlock = some g ∧ w.heap.size ≤ g)
    (hk : ∀ k, k < w.heap.size → k ≠ d → some k ≠ D.mp → w'.heap[k]? = w.heap[k]?) (hlen : D.H.length < 128) (htot : usedH D.H + f.b.length ≤ 4194304) : Dk w' base d { D with mp := some m, H := insT Hd.key f D.H } := by
  have hap : ∀ x ∈ D.H, Apart f x := fun x hx => by
    refine ⟨fun e => ?_, ?_⟩
    · have := h.lt x.fb (foot_fl hx (by simp [Hd.foot]))
      omega
    · rcases hvb with e | ⟨g, e, hg⟩
      · exact .inl e
      · right
        intro e2
        rw [e] at e2
        have := h.lt g (foot_fl hx (by simp [Hd.foot, ← e2]))
        omega
  refine ⟨h.bd, hblk, fun e => (by cases e), fun m' hm' => ?_, fun x hx => ?_, pair_ins h.nd hap, h.r1, h.r2, h.l1, h.l2, ?_, ?_⟩
  · injection hm' with hm'
    subst hm'
    exact hM
  · rcases (insT_mem Hd.key f D.H x).1 hx with rfl | hx
    · exact hnew
    · refine (h.fl x hx).keep fun k hk2 => hk k (h.lt k (foot_fl hx hk2)) (fun e => ?_) (fun e => ?_)
      · subst e
        exact h.d_out (List.mem_append.2 (.inr (List.mem_flatMap.2 ⟨x, hx, hk2⟩)))
      · have h1 := h.mp_ne hx e.symm
        simp only [Hd.foot, List.mem_cons, Option.mem_toList] at hk2
        rcases hk2 with e2 | e2
        · exact h1.1 e2
        · exact h1.2 e2.symm
  · show (insT Hd.key f D.H).length ≤ 128
    rw [insT_length]; omega
  · show usedH (insT Hd.key f D.H) ≤ _
    rw [used_perm (insT_perm Hd.key f D.H)]
    have e : usedH (f :: D.H) = f.b.length + usedH D.H := by unfold usedH; simp
    omega
theorem ins_foot {f : Hd} {m n : Nat} (hm : D.mp = some m ∨ n ≤ m) (hfb : n ≤ f.fb) (hvb : f.v.ownBlock = none ∨ ∃ g, f.v.ownBlock = some g ∧ n ≤ g) : ∀ k ∈ ({ D with mp := some m, H := insT Hd.key f D.H } : Dsk).foot d, k ∈ D.foot d ∨ n ≤ k := fun k hk => by
  simp only [Dsk.foot, List.mem_cons, List.mem_append, List.mem_flatMap, Option.mem_toList] at hk ⊢
  rcases hk with rfl | hk | ⟨x, hx, hk⟩
  · exact .inl (.inl rfl)
  · injection hk with hk
    subst hk
    rcases hm with e | e
    · exact .inl (.inr (.inl e))
    · exact .inr e
  · rcases (insT_mem Hd.key f D.H x).1 hx with rfl | hx
    · simp only [Hd.foot, List.mem_cons, Option.mem_toList] at hk
      rcases hk with rfl | hk
      · exact .inr hfb
      · rcases hvb with e | ⟨g, e, hg⟩
        · rw [e] at hk; cases hk
        · rw [e] at hk
          injection hk with hk
          exact .inr (by omega)
    · exact .inl (.inr (.inr ⟨x, hx, hk⟩))
theorem file_new (w : World) (base : Nat) (s : ByteArray) (hs : s.size ≤ 24) (hb : base ≤ w.heap.size) : FileAt (w.alloc (.cells #[.slice none 0 0, .int .i64 0] 64)) base ⟨s, w.heap.size, .slice none 0 0, [], 0⟩ :=
  ⟨hb, heap_alloc_new w _, World.ownsRow_nil _ _ _ _, Nat.le_refl _, hs⟩
end
theorem name_len {s : ByteArray} (h : nameB s = true) : 1 ≤ s.size ∧ s.size ≤ 24 := by
  unfold nameB at h
  simp only [Bool.and_eq_true, decide_eq_true_iff] at h
  exact h.1
set_option maxRecDepth 100000 in
set_option maxHeartbeats 4000000 in
theorem create_any (base d : Nat) (D : Dsk) (s : ByteArray) (w : World) (h : Dk w base d D) (hb : base ≤ w.heap.size) (hn : D.at_ s = none) (hs : s.size ≤ 24) (hl : D.H.length < 128) :
    Calls Try.prog 30 #[.pointer (some ⟨d, 0, none⟩), .string s] w fun e w' => ∃ fb m, e = .returned (.pointer (some ⟨fb, 0, none⟩)) ∧ w.heap.size ≤ fb ∧ Dk w' base d { D with mp := some m, H := insT Hd.key ⟨s, fb, .slice none 0 0, [], 0⟩ D.H } ∧ Turn (D.foot d) w w' ∧ (D.mp = some m ∨ w.heap.size ≤ m) := by
  have c0 := h.c0
  have f0 := h.free 0
  have HD := Lib.hid h
  have hdl := h.dlt
  have hdel : delT Hd.key s.data.toList D.H = D.H := delT_none Hd.key hn
  have ht : usedH D.H ≤ 4194304 := h.tot
  clear h
  cases hmp : D.mp with
  | none =>
    have hH : D.H = [] := HD.out.mp0 hmp
    rw [hmp] at c0
    have hM0 : Mt Hd.key Hd.ptr Try.prog 9 (((w.setCell ⟨d, 0, none⟩ (.map (some w.heap.size))).alloc (.map #[] 0)).alloc (.cells #[.slice none 0 0, .int .i64 0] 64)) w.heap.size ([] : List Hd) := by
      have := Mt.made (kf := Hd.key) (vf := Hd.ptr) (P := Try.prog) (kt := 9) (w.setCell ⟨d, 0, none⟩ (.map (some w.heap.size)))
      have hz : (w.setCell ⟨d, 0, none⟩ (.map (some w.heap.size))).heap.size = w.heap.size := by simp
      rw [hz] at this
      exact this.kept (Below.heap_alloc _ _ _ (by simp))
    obtain ⟨w4, hst, hM4, ht4⟩ := hM0.store (t := 55) (e := 60) keyed9 Try.underlying55 Try.underlying9 (by simp) ⟨s, w.heap.size + 1, .slice none 0 0, [], 0⟩ s (by unfold maxLen; omega) rfl
    have hg4 := ht4.grown
    have hblk1 : (w.setCell ⟨d, 0, none⟩ (.map (some w.heap.size))).heap[d]? = some (.cells #[.map (some w.heap.size), .int .i64 D.room, .bool D.set, .int .i64 D.left] 59 (0, 0)) := by rw [heap_setCell_same w d 0 _ _ _ HD.out.blk]; rfl
    have hblk4 : w4.heap[d]? = some (.cells #[.map (some w.heap.size), .int .i64 D.room, .bool D.set, .int .i64 D.left] 59 (0, 0)) := by
      rw [hg4.block d (by simp; omega) (fun e => by injection e with e; omega), Below.heap_alloc _ _ _ (by simp; omega), Below.heap_alloc _ _ _ (by simp; omega)]
      exact hblk1
    have hold : ∀ k, k < w.heap.size → k ≠ d → w4.heap[k]? = w.heap[k]? := fun k hk hne => by
      rw [hg4.block k (by simp; omega) (fun e => by injection e with e; omega), Below.heap_alloc _ _ _ (by simp; omega), Below.heap_alloc _ _ _ (by simp; omega)]
      exact Below.heap_setCell w _ _ k (fun e => hne e)
    have hfile : FileAt w4 base ⟨s, w.heap.size + 1, .slice none 0 0, [], 0⟩ := by
      have h1 := file_new ((w.setCell ⟨d, 0, none⟩ (.map (some w.heap.size))).alloc (.map #[] 0)) base s hs (by simp; omega)
      have hz : ((w.setCell ⟨d, 0, none⟩ (.map (some w.heap.size))).alloc (.map #[] 0)).heap.size = w.heap.size + 1 := by simp
      rw [hz] at h1
      refine h1.keep fun k hk => ?_
      simp only [Hd.foot, Value.ownBlock, Option.toList, List.mem_cons, List.not_mem_nil, or_false] at hk
      subst hk
      exact hg4.block _ (by simp) (fun e => by injection e with e; omega)
    have HDK : Hid (Dk w4 base d { D with mp := some w.heap.size, H := insT Hd.key ⟨s, w.heap.size + 1, .slice none 0 0, [], 0⟩ D.H }) := by
      refine HD.out.ins ⟨hb, ?_⟩ hblk4 hfile (by simp) (.inl rfl) (fun k hk h1 _ => hold k hk h1) hl (by simpa using ht)
      rw [hH]
      exact hM4
    have HTU : Hid (Turn (D.foot d) w w4) := ⟨by rw [hg4.os]; rfl, by rw [hg4.tape]; rfl, by rw [hg4.output]; rfl, by have := hg4.size; simp at this; omega, fun k hk hne => hold k hk (fun e => hne (by rw [e]; exact foot_d))⟩
    clear hM0 hM4 ht4 hg4 hblk1 hblk4 hold hfile
    unfold Hd.ptr at hst
    simp only at hst
    have hqm : ∀ W m, (binOp .eql 55 (.map m) (.map none)).run Try.prog W = .ok (.bool m.isNone) W := fun W m => by
      simp only [binOp]
      simp [run_equal_map_nil W 55 9 60 m Try.underlying55]
    have hqm1 := hqm w none
    have hqm2 : ∀ m, (binOp .eql 55 (.map (some m)) (.map none)).run Try.prog w = .ok (.bool false) w := fun m => hqm w (some m)
    simp only [Option.isNone_none] at hqm1
    clear hqm
    have hmm := @run_makeMap Try.prog
    go_enter Try.func30, Try.ntmps30
    go_wp2_with fail
    go_ret
    exact ⟨_, _, rfl, by simp, HDK.out, HTU.out, .inr (Nat.le_refl _)⟩
  | some m =>
    rw [hmp] at c0
    obtain ⟨hbm, hM⟩ := HD.out.mp1 m hmp
    have hml := hM.lt
    have hmd : m ≠ d := fun e => HD.out.d_out (by rw [← e]; exact List.mem_append.2 (.inl (Option.mem_toList.2 hmp)))
    have hM0 : Mt Hd.key Hd.ptr Try.prog 9 (w.alloc (.cells #[.slice none 0 0, .int .i64 0] 64)) m D.H := hM.kept (Below.heap_alloc _ _ _ hml)
    obtain ⟨w4, hst, hM4, ht4⟩ := hM0.store (t := 55) (e := 60) keyed9 Try.underlying55 Try.underlying9 (by omega) ⟨s, w.heap.size, .slice none 0 0, [], 0⟩ s (by unfold maxLen; omega) rfl
    have hg4 := ht4.grown
    have e4 : putT Hd.key ⟨s, w.heap.size, .slice none 0 0, [], 0⟩ D.H = insT Hd.key ⟨s, w.heap.size, .slice none 0 0, [], 0⟩ D.H := by
      unfold putT
      rw [show Hd.key ⟨s, w.heap.size, .slice none 0 0, [], 0⟩ = s.data.toList from rfl, hdel]
    rw [e4] at hM4
    have hold : ∀ k, k < w.heap.size → k ≠ m → w4.heap[k]? = w.heap[k]? := fun k hk hne => by
      rw [hg4.block k (by simp; omega) (fun e => by injection e with e; exact hne e), Below.heap_alloc _ _ _ hk]
    have hfile : FileAt w4 base ⟨s, w.heap.size, .slice none 0 0, [], 0⟩ := by
      refine (file_new w base s hs hb).keep fun k hk => ?_
      simp only [Hd.foot, Value.ownBlock, Option.toList, List.mem_cons, List.not_mem_nil, or_false] at hk
      subst hk
      exact hg4.block _ (by simp) (fun e => by injection e with e; omega)
    have HDK : Hid (Dk w4 base d { D with mp := some m, H := insT Hd.key ⟨s, w.heap.size, .slice none 0 0, [], 0⟩ D.H }) := by
      refine HD.out.ins ⟨hbm, hM4⟩ ?_ hfile (Nat.le_refl _) (.inl rfl) (fun k hk _ h2 => hold k hk (fun e => h2 (by rw [e, hmp]))) hl (by simpa using ht)
      rw [hold d hdl (fun e => hmd e.symm), HD.out.blk, hmp]
    have HTU : Hid (Turn (D.foot d) w w4) := ⟨by rw [hg4.os]; rfl, by rw [hg4.tape]; rfl, by rw [hg4.output]; rfl, by have := hg4.size; simp at this; omega, fun k hk hne => hold k hk (fun e => hne (by rw [e]; exact foot_mp hmp))⟩
    clear hM0 hM4 ht4 hg4 hold hfile e4 hM hdel
    unfold Hd.ptr at hst
    simp only at hst
    have hqm : ∀ W m, (binOp .eql 55 (.map m) (.map none)).run Try.prog W = .ok (.bool m.isNone) W := fun W m => by
      simp only [binOp]
      simp [run_equal_map_nil W 55 9 60 m Try.underlying55]
    have hqm1 := hqm w none
    have hqm2 : ∀ m, (binOp .eql 55 (.map (some m)) (.map none)).run Try.prog w = .ok (.bool false) w := fun m => hqm w (some m)
    simp only [Option.isNone_none] at hqm1
    clear hqm
    have hmm := @run_makeMap Try.prog
    go_enter Try.func30, Try.ntmps30
    go_wp2_with fail
    go_ret
    exact ⟨_, _, rfl, Nat.le_refl _, HDK.out, HTU.out, .inl rfl⟩
set_option maxRecDepth 100000 in
set_option maxHeartbeats 2000000 in
theorem fits_any (free n c B : Nat) (A : Option Addr) (L : List (List UInt8)) (w : World) (hL : Rs w B A n L) (hf : free ≤ 4194304) (hn : n ≤ maxLen) :
    Calls Try.prog 54 #[.int .i64 (free : Int), .slice A n c] w fun e w' => e = .returned (.bool (decide (tot L ≤ free))) ∧ w' = w := by
  have HL := Lib.hid hL
  have hlen := hL.len
  unfold maxLen at hn
  clear hL
  go_enter Try.func54, Try.ntmps54
  go_wp2_with fail
  go_loopw [0, 9] (fun fv iv wr => ∃ (k fr : Nat), k ≤ n ∧ iv = .int .i64 k ∧ fv = .int .i64 (fr : Int) ∧ Hid (tot (L.take k) + fr = free) ∧ wr = w) (fun _ iv _ => n - (RowKit.intOf iv).toNat)
  case atStart => exact ⟨0, free, by omega, rfl, rfl, by show _ = _; simp [tot], rfl⟩
  case round =>
    obtain ⟨k, fr, hk, rfl, rfl, HS, hwr⟩ := hrel
    have hwr' := hwr.symm
    subst hwr'
    clear hwr
    have hfr : fr ≤ free := by have := HS.out; omega
    by_cases hlt : k < n
    · obtain ⟨p, Al, cl, rfl, hpb, hc, hlc, hcm, hbs⟩ := HL.out.row k hlt
      have HT := Lib.hid (tot_take L k (by omega))
      obtain ⟨ll, hll⟩ : ∃ ll, (L.getD k []).length = ll := ⟨_, rfl⟩
      rw [hll] at hc hlc HT
      have HTT : Hid (tot (L.take (k + 1)) ≤ tot L) := by
        show _ ≤ _
        unfold tot
        conv => rhs; rw [← List.take_append_drop (k + 1) L]
        rw [List.flatten_append, List.length_append]
        omega
      clear hbs hll
      unfold maxLen at hcm
      by_cases hg : fr < ll
      · have d1 : decide ((fr : Int) < (ll : Int)) = true := by rw [decide_eq_true_iff]; omega
        have d1' : decide (fr < ll) = true := decide_eq_true hg
        have HF : Hid (decide (tot L ≤ free) = false) := by
          rw [Hid, decide_eq_false_iff_not]
          have h1 := HS.out
          have h2 := HT.out
          have h3 := HTT.out
          omega
        go_wp2_with fail
        go_ret
        exact ⟨by rw [HF.out]; rfl, rfl⟩
      · have d1 : decide ((fr : Int) < (ll : Int)) = false := by rw [decide_eq_false_iff_not]; omega
        have d1' : decide (fr < ll) = false := decide_eq_false hg
        have ew : IntKind.i64.wrap ((fr : Int) - (ll : Int)) = (fr : Int) - (ll : Int) := by rw [IntKind.wrap_i64]; omega
        have hcl : ((fr - ll : Nat) : Int) = (fr : Int) - (ll : Int) := by omega
        have HS2 : Hid (tot (L.take (k + 1)) + (fr - ll) = free) := by
          have h1 := HS.out
          have h2 := HT.out
          show _ = _
          omega
        go_wp2_with fail
        go_roundw
        case rel => exact ⟨k + 1, fr - ll, by omega, by go_num, by rw [hcl], HS2, (by first | rfl | trivial)⟩
        case measure => simp [RowKit.intOf]; omega
    · have d8 : decide ((k : Int) < (n : Int)) = false := by rw [decide_eq_false_iff_not]; omega
      have HF : Hid (decide (tot L ≤ free) = true) := by
        rw [Hid, decide_eq_true_iff]
        have h1 := HS.out
        rw [List.take_of_length_le (by omega)] at h1
        omega
      go_wp2_with fail
      go_ret
      exact ⟨by rw [HF.out]; rfl, rfl⟩
end Go.Proofs.Ytebkgcnldbkgeaa
