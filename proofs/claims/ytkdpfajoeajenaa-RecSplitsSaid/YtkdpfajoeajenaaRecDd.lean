/-
  What rec.Decode does where all can be read.
-/
import Derived.Test.YtkdpfajoeajenaaRecDb
namespace Go.Proofs.Ytkdpfajoeajenaa
open Go.RowKit
set_option linter.unusedVariables false
set_option linter.unusedSimpArgs false

/-- the bytes l are read as the batch b -/
structure BatAt (l : List UInt8) (b : Bat) : Prop where
  fine : Fine b
  at_ : ∃ q, HeadAt l (markB b) b.base.toNat b.pid.toNat b.epoch.toNat b.seq.toNat b.kind.toNat b.time.toNat q ∧ (markB b = true → b.L = [] ∧ q = l.length) ∧
    (markB b = false → ∃ P : Nat → Nat, dUint l q = .ok (.int .u64 (b.L.length : Int)) (P 0) ∧ P b.L.length = l.length ∧ ∀ k, k < b.L.length → RecAt l b.time (prevKey b.L k) (P k) (b.L.getD k default) (P (k + 1)))

set_option maxRecDepth 100000 in
set_option maxHeartbeats 8000000 in
theorem decode_ok (b : Bat) (A : Option Addr) (n c B : Nat) (l : List UInt8) (w : World) (hbs : Bs w B A n l) (hn : n ≤ 1099511627776) (hB : B ≤ w.heap.size) (hat : BatAt l b) :
    Calls Try.prog 41 #[.slice A n c] w fun e w' => ∃ A' c', e = .returned (.tuple #[.agg (b.cells A' c'), .int .i64 0]) ∧ b.L.length ≤ c' ∧ c' ≤ maxLen ∧ Rcs w' w'.heap.size A' b.L.length b.L ∧ Below w.heap.size w w' := by
  obtain ⟨q, hh, hm1, hm0⟩ := hat.at_
  have hF := hat.fine
  have a1 := hF.b1; have a2 := hF.b2; have a3 := hF.p1; have a4 := hF.p2; have a5 := hF.e1; have a6 := hF.e2; have a7 := hF.s1; have a8 := hF.s2; have a9 := hF.k1; have a10 := hF.k2; have a11 := hF.t1; have a12 := hF.t2
  have e1 : ((b.base.toNat : Nat) : Int) = b.base := by omega
  have e2 : ((b.pid.toNat : Nat) : Int) = b.pid := by omega
  have e3 : ((b.epoch.toNat : Nat) : Int) = b.epoch := by omega
  have e4 : ((b.seq.toNat : Nat) : Int) = b.seq := by omega
  have e5 : ((b.kind.toNat : Nat) : Int) = b.kind := by omega
  have e6 : ((b.time.toNat : Nat) : Int) = b.time := by omega
  have HBA : Hid (∀ (W : World) (d g c : Nat) (A : Option Addr), Dc W d g A c l 0 → Calls Try.prog 73 #[.pointer (some ⟨d, 0, none⟩)] W fun e w' => ∃ A' c', e = .returned (.agg #[.int .i64 b.base, .int .i64 b.pid, .int .i64 b.epoch, .int .i64 b.seq, .int .i64 b.kind, .int .i64 b.time, .slice A' b.L.length c']) ∧ b.L.length ≤ c' ∧ c' ≤ maxLen ∧ Rcs w' w'.heap.size A' b.L.length b.L ∧ (∀ p, A' = some p → W.heap.size ≤ p.block) ∧ Dc w' d g A c l l.length ∧ Two g d W w') := fun W d g c A hW => by
    have := dbatch_ok (markB b) d g c b.base.toNat b.pid.toNat b.epoch.toNat b.seq.toNat b.kind.toNat b.time.toNat q l.length A l b.L W hW hh (by rw [e5]; rfl) (by omega) (by omega) (by omega) (by omega) (by omega) (fun h => ⟨(hm1 h).1, (hm1 h).2.symm⟩)
      (fun h W2 hW2 => by
        obtain ⟨P, u1, u2, u3⟩ := hm0 h
        have := drecs_ok d g c q b.L.length A l b.time b.L P W2 hW2 u1 rfl hF.len u3 hF.recs hF.t1 hF.t2
        rw [u2, ← e6] at this
        exact this)
    rw [e1, e2, e3, e4, e5, e6] at this
    exact this
  have HVA : Hid (∀ (W : World) (A' : Option Addr) (c' : Nat), Rcs W W.heap.size A' b.L.length b.L → Calls Try.prog 10 #[.agg #[.int .i64 b.base, .int .i64 b.pid, .int .i64 b.epoch, .int .i64 b.seq, .int .i64 b.kind, .int .i64 b.time, .slice A' b.L.length c']] W fun e w' => e = .returned (.int .i64 0) ∧ Below W.heap.size W w') := fun W A' c' hW => by
    have := valid_any b A' c' W.heap.size W hW (Nat.le_refl _) (by have := hF.len; unfold maxLen; omega)
    rw [(fine_iff b).2 hF] at this
    exact this
  obtain ⟨base, pid, epoch, seq, kind, time, L⟩ := b
  unfold Bat.cells at *
  simp only at *
  clear hat hh hm1 hm0 hF a1 a2 a3 a4 a5 a6 a7 a8 a9 a10 a11 a12 e1 e2 e3 e4 e5 e6
  have HNR := Lib.hid (newReader_any A n c B l (w.alloc (.cells #[.int .i64 0, .int .i64 0, .int .i64 0, .int .i64 0, .int .i64 0, .int .i64 0, .slice none 0 0] 24)) (hbs.alloc hB _) hn (by simp; omega))
  have hr := heap_alloc_new w (.cells #[.int .i64 0, .int .i64 0, .int .i64 0, .int .i64 0, .int .i64 0, .int .i64 0, .slice none 0 0] 24)
  have HR := Lib.hid hr
  have HW := Lib.hid ((Below.refl w.heap.size w).alloc (Nat.le_refl _) (.cells #[.int .i64 0, .int .i64 0, .int .i64 0, .int .i64 0, .int .i64 0, .int .i64 0, .slice none 0 0] 24))
  have hz1 : w.heap.size + 1 = (w.alloc (.cells #[.int .i64 0, .int .i64 0, .int .i64 0, .int .i64 0, .int .i64 0, .int .i64 0, .slice none 0 0] 24)).heap.size := by simp
  have HZ1 := Lib.hid hz1
  clear hr hz1 hbs
  go_enter Try.func41, Try.ntmps41
  go_wp2_with fail
  generalize w.alloc (.cells #[.int .i64 0, .int .i64 0, .int .i64 0, .int .i64 0, .int .i64 0, .int .i64 0, .slice none 0 0] 24) = w1 at *
  refine HNR.out.mono ?_
  rintro e w2 ⟨g, A2, c2, rfl, hg, hr2, hb2⟩
  have hgw : w.heap.size + 1 ≤ g := by rw [HZ1.out]; exact hg
  have hr2' := (hb2.block w.heap.size (by have := HZ1.out; omega)).trans HR.out
  have hB2 := HW.out.trans (hb2.mono HW.out.size)
  have hD2 : Dc (w2.alloc (.cells #[.pointer (some ⟨g, 0, none⟩), .bool false] 114)) w2.heap.size g A2 c2 l 0 := ⟨heap_alloc_new w2 _, hr2.alloc _, hr2.lt⟩
  have hB3 := hB2.alloc hB2.size (.cells #[.pointer (some ⟨g, 0, none⟩), .bool false] 114)
  have hr3 : (w2.alloc (.cells #[.pointer (some ⟨g, 0, none⟩), .bool false] 114)).heap[w.heap.size]? = _ := (((Below.refl w2.heap.size w2).alloc (Nat.le_refl _) _).block w.heap.size (by have := hr2.lt; omega)).trans hr2'
  have HB := Lib.hid (HBA.out _ _ _ _ _ hD2)
  have hgl := hr2.lt
  have HB3 := Lib.hid hB3
  have HR3 := Lib.hid hr3
  clear hr2 hb2 hr2' hB2 hD2 hB3 hr3 HNR HR HW HBA
  go_wp2_with fail
  have hz3 : w2.heap.size < (w2.alloc (.cells #[.pointer (some ⟨g, 0, none⟩), .bool false] 114)).heap.size := by simp
  generalize w2.alloc (.cells #[.pointer (some ⟨g, 0, none⟩), .bool false] 114) = w3 at *
  refine HB.out.mono ?_
  rintro e w4 ⟨A4, c4, rfl, hc4, hm4, hR4, hA4, hD4, hT4⟩
  have HA4 : Hid (∀ p, A4 = some p → w.heap.size < p.block) := fun p hp => by have := hA4 p hp; omega
  clear hA4
  have hr4 := (hT4.block w.heap.size (by omega) (by omega) (by omega)).trans HR3.out
  have hB4 := HB3.out.trans (hT4.below (B := w.heap.size) (by omega) (by omega) (by omega))
  have z4 := hT4.size
  -- the batch in its block
  have hb5 := heap_alloc_new w4 (.cells #[.int .i64 base, .int .i64 pid, .int .i64 epoch, .int .i64 seq, .int .i64 kind, .int .i64 time, .slice A4 L.length c4] 24)
  have hD5 := hD4.alloc (.cells #[.int .i64 base, .int .i64 pid, .int .i64 epoch, .int .i64 seq, .int .i64 kind, .int .i64 time, .slice A4 L.length c4] 24)
  have hal := (Below.refl w4.heap.size w4).alloc (Nat.le_refl _) (.cells #[.int .i64 base, .int .i64 pid, .int .i64 epoch, .int .i64 seq, .int .i64 kind, .int .i64 time, .slice A4 L.length c4] 24)
  have hR5 := (hR4.below hal).wider hal.size
  have hr5 := (hal.block w.heap.size (by omega)).trans hr4
  have hB5 := hB4.alloc hB4.size (.cells #[.int .i64 base, .int .i64 pid, .int .i64 epoch, .int .i64 seq, .int .i64 kind, .int .i64 time, .slice A4 L.length c4] 24)
  have hz5 : w4.heap.size < (w4.alloc (.cells #[.int .i64 base, .int .i64 pid, .int .i64 epoch, .int .i64 seq, .int .i64 kind, .int .i64 time, .slice A4 L.length c4] 24)).heap.size := by simp
  clear hr4 hB4 hD4 hR4 hT4 hal HB HB3 HR3
  have x0 := hD5.c0
  have x1 := hD5.c1
  have HEN := Lib.hid (end_ok g c2 A2 l _ hD5.rd)
  have HB5 := Lib.hid hb5
  have HR5 := Lib.hid hR5
  have HR5' := Lib.hid hr5
  have HBE := Lib.hid hB5
  clear hb5 hD5 hR5 hr5 hB5
  go_wp2_with fail
  generalize w4.alloc (.cells #[.int .i64 base, .int .i64 pid, .int .i64 epoch, .int .i64 seq, .int .i64 kind, .int .i64 time, .slice A4 L.length c4] 24) = w5 at *
  refine HEN.out.mono ?_
  rintro e w6 ⟨rfl, k6, rfl⟩
  have hb6 : (w5.drewN k6).heap[w4.heap.size]? = _ := HB5.out
  have m0 : (w5.drewN k6).cell? ⟨w4.heap.size, 0, none⟩ = some (.int .i64 base) := cell_of_row _ _ 0 _ _ _ hb6
  have m1 : (w5.drewN k6).cell? ⟨w4.heap.size, 1, none⟩ = some (.int .i64 pid) := cell_of_row _ _ 1 _ _ _ hb6
  have m2 : (w5.drewN k6).cell? ⟨w4.heap.size, 2, none⟩ = some (.int .i64 epoch) := cell_of_row _ _ 2 _ _ _ hb6
  have m3 : (w5.drewN k6).cell? ⟨w4.heap.size, 3, none⟩ = some (.int .i64 seq) := cell_of_row _ _ 3 _ _ _ hb6
  have m4 : (w5.drewN k6).cell? ⟨w4.heap.size, 4, none⟩ = some (.int .i64 kind) := cell_of_row _ _ 4 _ _ _ hb6
  have m5 : (w5.drewN k6).cell? ⟨w4.heap.size, 5, none⟩ = some (.int .i64 time) := cell_of_row _ _ 5 _ _ _ hb6
  have m6 : (w5.drewN k6).cell? ⟨w4.heap.size, 6, none⟩ = some (.slice A4 L.length c4) := cell_of_row _ _ 6 _ _ _ hb6
  have HV := Lib.hid (HVA.out (w5.drewN k6) A4 c4 (HR5.out.below (below_draws (Below.refl _ _) k6)))
  clear hb6 HEN x0 x1
  have HB6 : Hid (Below w.heap.size w (w5.drewN k6)) := below_draws HBE.out k6
  have HR6 : Hid (Rcs (w5.drewN k6) (w5.drewN k6).heap.size A4 L.length L) := HR5.out.below (below_draws (Below.refl _ _) k6)
  have HB6' : Hid ((w5.drewN k6).heap[w4.heap.size]? = some (.cells #[.int .i64 base, .int .i64 pid, .int .i64 epoch, .int .i64 seq, .int .i64 kind, .int .i64 time, .slice A4 L.length c4] 24 (0, 0))) := HB5.out
  have HR6' : Hid ((w5.drewN k6).heap[w.heap.size]? = some (.cells #[.int .i64 0, .int .i64 0, .int .i64 0, .int .i64 0, .int .i64 0, .int .i64 0, .slice none 0 0] 24 (0, 0))) := HR5'.out
  have hz6 : w4.heap.size < (w5.drewN k6).heap.size := hz5
  generalize w5.drewN k6 = w6 at *
  go_wp2_with fail
  refine HV.out.mono ?_
  rintro e w7 ⟨rfl, hb7⟩
  have hB7 := HB6.out.trans (hb7.mono HB6.out.size)
  have hR7 := (HR6.out.below hb7).wider hb7.size
  have bb7 := (hb7.block w4.heap.size hz6).trans HB6'.out
  have rr7 := (hb7.block w.heap.size (by omega)).trans HR6'.out
  have z7 := hb7.size
  clear m0 m1 m2 m3 m4 m5 m6 hb7 HV
  have m0 : w7.cell? ⟨w4.heap.size, 0, none⟩ = some (.int .i64 base) := cell_of_row _ _ 0 _ _ _ bb7
  have d0 : w7.cell? ⟨w.heap.size, 0, none⟩ = some (.int .i64 0) := cell_of_row _ _ 0 _ _ _ rr7
  have h0 : w7.frozen? ⟨w.heap.size, 0, none⟩ = false := frozen_of_row _ _ 0 _ _ rr7
  have m1 : w7.cell? ⟨w4.heap.size, 1, none⟩ = some (.int .i64 pid) := cell_of_row _ _ 1 _ _ _ bb7
  have d1 : w7.cell? ⟨w.heap.size, 1, none⟩ = some (.int .i64 0) := cell_of_row _ _ 1 _ _ _ rr7
  have h1 : w7.frozen? ⟨w.heap.size, 1, none⟩ = false := frozen_of_row _ _ 1 _ _ rr7
  have m2 : w7.cell? ⟨w4.heap.size, 2, none⟩ = some (.int .i64 epoch) := cell_of_row _ _ 2 _ _ _ bb7
  have d2 : w7.cell? ⟨w.heap.size, 2, none⟩ = some (.int .i64 0) := cell_of_row _ _ 2 _ _ _ rr7
  have h2 : w7.frozen? ⟨w.heap.size, 2, none⟩ = false := frozen_of_row _ _ 2 _ _ rr7
  have m3 : w7.cell? ⟨w4.heap.size, 3, none⟩ = some (.int .i64 seq) := cell_of_row _ _ 3 _ _ _ bb7
  have d3 : w7.cell? ⟨w.heap.size, 3, none⟩ = some (.int .i64 0) := cell_of_row _ _ 3 _ _ _ rr7
  have h3 : w7.frozen? ⟨w.heap.size, 3, none⟩ = false := frozen_of_row _ _ 3 _ _ rr7
  have m4 : w7.cell? ⟨w4.heap.size, 4, none⟩ = some (.int .i64 kind) := cell_of_row _ _ 4 _ _ _ bb7
  have d4 : w7.cell? ⟨w.heap.size, 4, none⟩ = some (.int .i64 0) := cell_of_row _ _ 4 _ _ _ rr7
  have h4 : w7.frozen? ⟨w.heap.size, 4, none⟩ = false := frozen_of_row _ _ 4 _ _ rr7
  have m5 : w7.cell? ⟨w4.heap.size, 5, none⟩ = some (.int .i64 time) := cell_of_row _ _ 5 _ _ _ bb7
  have d5 : w7.cell? ⟨w.heap.size, 5, none⟩ = some (.int .i64 0) := cell_of_row _ _ 5 _ _ _ rr7
  have h5 : w7.frozen? ⟨w.heap.size, 5, none⟩ = false := frozen_of_row _ _ 5 _ _ rr7
  have m6 : w7.cell? ⟨w4.heap.size, 6, none⟩ = some (.slice A4 L.length c4) := cell_of_row _ _ 6 _ _ _ bb7
  have d6 : w7.cell? ⟨w.heap.size, 6, none⟩ = some (.slice none 0 0) := cell_of_row _ _ 6 _ _ _ rr7
  have h6 : w7.frozen? ⟨w.heap.size, 6, none⟩ = false := frozen_of_row _ _ 6 _ _ rr7
  have HB7 := Lib.hid hB7
  have HR7 := Lib.hid hR7
  clear hB7 hR7 bb7 rr7
  go_wp2_with fail
  refine bodyPost_ret (v := .tuple #[.agg #[.int .i64 base, .int .i64 pid, .int .i64 epoch, .int .i64 seq, .int .i64 kind, .int .i64 time, .slice A4 L.length c4], .int .i64 0]) (by simp [results, Try.results41, go_sem, d0, d1, d2, d3, d4, d5, d6]) rfl ?_
  refine ⟨A4, c4, rfl, hc4, hm4, ?_, ?_⟩
  · refine Rcs.wider (B := w7.heap.size) ⟨HR7.out.len, HR7.out.lies.far_ fun p hp i => ?_, HR7.out.ok⟩ (by simp)
    have hpb := HA4.out p hp
    have hpi := add_block p i
    have n0 : ¬ w.heap.size = (p.add i).block := by rw [hpi]; omega
    simp only [World.cell?_setCell_far, ne_eq, n0, not_false_eq_true]
  · repeat refine Below.setCell ?_ (by simp) _
    exact HB7.out
end Go.Proofs.Ytkdpfajoeajenaa
