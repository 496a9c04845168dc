/-
  The document's small; what its reader tells where a record can be read.
  What the document's records does, whatever the bytes say.
  What the document's Decode does, whatever the bytes say.
  What the document's Decode does, whatever the bytes say: the walk.
  The document's Encode: its bytes are new memory.
-/
import Derived.Test.YtniopekkfnkipaaRecGz
import Derived.Test.YtniopekkfnkipaaWrH
import Derived.Test.YtniopekkfnkipaaRecRe
namespace Go.Proofs.Ytniopekkfnkipaa
open Go.RowKit
set_option linter.unusedVariables false
set_option linter.unusedSimpArgs false

theorem uR_of {l : List UInt8} {p q n : Nat} (h : dUint l p = .ok (.int .u64 (n : Int)) q) : uR l p 0 = (n, q, 0) := by
  rw [dUint_num] at h
  unfold uR
  rw [if_pos rfl]
  by_cases hz : (numP (l.drop p)).2 = 0
  · rw [if_pos hz] at h; cases h
  · rw [if_neg hz] at h ⊢
    obtain ⟨h1, h2⟩ := ok_inj h
    have h1 := int_inj h1
    rw [h2, show (numP (l.drop p)).1 = n by omega]
theorem iR_of {l : List UInt8} {p q : Nat} {t : Int} (h : dInt l p = .ok (.int .i64 t) q) : iR l p 0 = (t, q, 0) := by
  rw [int_m] at h
  by_cases hz : (iR l p 0).2.2 ≠ 0
  · rw [if_pos hz] at h; cases h
  · rw [if_neg hz] at h
    obtain ⟨h1, h2⟩ := ok_inj h
    have h1 := int_inj h1
    generalize iR l p 0 = tt at *
    obtain ⟨a, b, c⟩ := tt
    simp only at h1 h2 hz
    rw [h1, h2, show c = 0 by omega]
theorem flagR_of {l : List UInt8} {p q : Nat} {on : Bool} (h : dFlag l p = .ok (.bool on) q) : flagR l p 0 = (on, q, 0) := by
  unfold dFlag at h
  by_cases h1 : p < l.length
  · rw [if_pos h1] at h
    by_cases h2 : (l.getD p 0).toNat ≤ 1
    · rw [if_pos h2] at h
      obtain ⟨h3, h4⟩ := ok_inj h
      injection h3 with h3
      rw [flagR_0 (by omega), if_pos ⟨h1, h2⟩, h3, h4]
    · rw [if_neg h2] at h; cases h
  · rw [if_neg h1] at h; cases h
theorem byteR_of {l : List UInt8} {p q b : Nat} (h : dByte l p = .ok (.int .i64 (b : Int)) q) : byteR l p 0 = (b, q, 0) := by
  unfold dByte at h
  by_cases h1 : p < l.length
  · rw [if_pos h1] at h
    obtain ⟨h3, h4⟩ := ok_inj h
    have h3 := int_inj h3
    rw [byteR_0 (by omega), if_pos h1, h4, show (l.getD p 0).toNat = b by omega]
  · rw [if_neg h1] at h; cases h
theorem dText_more {l : List UInt8} {p q : Nat} {s : ByteArray} (h : dText l p 1024 = .ok (.string s) q) : dText l p 2000 = .ok (.string s) q := by
  unfold dText at *
  cases hn : Wn.num (l.drop p) with
  | none => rw [hn] at h; cases h
  | some x =>
    rw [hn] at h
    simp only at h ⊢
    by_cases h1 : (1024 : Int).toNat < x.1
    · rw [if_pos h1] at h; cases h
    · rw [if_neg h1] at h
      rw [if_neg (by simp at *; omega)]
      exact h
theorem textR_of {l : List UInt8} {p q : Nat} {s : ByteArray} (h : dText l p 1024 = .ok (.string s) q) : ∃ x, textR l p 0 2000 = (x, q, 0) ∧ (⟨x.toArray⟩ : ByteArray) = s := by
  have h := dText_more h
  rw [text_m] at h
  by_cases hz : (textR l p 0 2000).2.2 ≠ 0
  · rw [if_pos hz] at h; cases h
  · rw [if_neg hz] at h
    obtain ⟨h1, h2⟩ := ok_inj h
    injection h1 with h1
    generalize textR l p 0 2000 = tt at *
    obtain ⟨a, b, c⟩ := tt
    simp only at h1 h2 hz
    exact ⟨a, by rw [h2, show c = 0 by omega], h1⟩
/-- what the document's small comes to -/
def sV (u : Nat) : Int := if 2199023255552 < u then -1 else (u : Int)
theorem sV_in (u : Nat) : -1 ≤ sV u ∧ sV u ≤ 2199023255552 := by unfold sV; split <;> omega
theorem sV_of {u : Nat} (h : u ≤ 2199023255552) : sV u = (u : Int) := by unfold sV; rw [if_neg (by omega)]
set_option maxHeartbeats 1000000 in
theorem small_any {g c p er : Nat} {A : Option Addr} {l : List UInt8} {w : World} (h : Rq w g A c l p er) :
    Calls Try.prog 22 #[.pointer (some ⟨g, 0, none⟩)] w fun e w' => e = .returned (.int .i64 (sV (uR l p er).1)) ∧ Rq w' g A c l (uR l p er).2.1 (uR l p er).2.2 ∧ w.grownBy w' (some g) := by
  have HU := Lib.hid (qU_any g c p er A l w h)
  have hlt := uR_lt l p er
  unfold sV
  generalize uR l p er = t at *
  obtain ⟨n, q, e1⟩ := t
  simp only at HU hlt ⊢
  clear h
  by_cases hn : 2199023255552 < n
  · have hd : decide ((2199023255552 : Int) < (n : Int)) = true := by rw [decide_eq_true_iff]; omega
    rw [if_pos hn]
    go_enter Try.func22, Try.ntmps22
    go_wp2_with fail
    refine HU.out.mono ?_
    rintro e w1 ⟨rfl, hr1, hg1⟩
    have HR := Lib.hid hr1
    have HG := Lib.hid hg1
    clear hr1 hg1 HU
    go_wp2_with fail
    go_ret
    exact ⟨rfl, HR.out, HG.out⟩
  · have hd : decide ((2199023255552 : Int) < (n : Int)) = false := by rw [decide_eq_false_iff_not]; omega
    rw [if_neg hn]
    go_enter Try.func22, Try.ntmps22
    go_wp2_with fail
    refine HU.out.mono ?_
    rintro e w1 ⟨rfl, hr1, hg1⟩
    have HR := Lib.hid hr1
    have HG := Lib.hid hg1
    clear hr1 hg1 HU
    go_wp2_with fail
    go_ret
    exact ⟨rfl, HR.out, HG.out⟩
/-- where a record can be read, the document's reader reads it -/
theorem rcomp {l kx vx : List UInt8} {time t : Int} {last : ByteArray} {p q p1 e1 p2 e2 p3 e3 p4 e4 p5 e5 u : Nat} {on : Bool} {r : Rec} (h : RecAt l time last p r q) (hr : recE r = 0) (t3 : 0 ≤ time) (t4 : time ≤ 1099511627776) (hl : last.size ≤ 2000000)
    (h1 : iR l p 0 = (t, p1, e1)) (h2 : flagR l p1 e1 = (on, p2, e2)) (h3 : uR l p2 e2 = (u, p3, e3)) (h4 : textR l p3 e3 2000 = (kx, p4, e4)) (h5 : textR l p4 e4 2000 = (vx, p5, e5)) :
    t ≤ 2199023255552 ∧ -2199023255552 ≤ t ∧ time + t = r.time ∧ on = r.gone ∧ sV u = (u : Int) ∧ u ≤ last.size ∧ last.extract 0 u ++ ⟨kx.toArray⟩ = r.key ∧ e4 = 0 ∧ (r.gone = true → r.value = ⟨#[]⟩ ∧ p4 = q) ∧ (r.gone = false → (⟨vx.toArray⟩ : ByteArray) = r.value ∧ p5 = q ∧ e5 = 0) := by
  obtain ⟨_, _, x3, x4, _⟩ := recE_zero hr
  obtain ⟨a1, a2, a3, a4, t', d1, d2, d3, d4, d5, d6, d7⟩ := h.at_
  rw [iR_of d1] at h1
  injection h1 with b1 h1
  injection h1 with b2 b3
  subst b1 b2 b3
  rw [flagR_of d3] at h2
  injection h2 with b1 h2
  injection h2 with b2 b3
  subst b1 b2 b3
  rw [uR_of d4] at h3
  injection h3 with b1 h3
  injection h3 with b2 b3
  subst b2 b3
  obtain ⟨x, g1, g2⟩ := textR_of d5
  rw [g1] at h4
  injection h4 with c1 h4
  injection h4 with c2 c3
  subst c1 c2 c3
  have hcm : comm last.data.toList r.key.data.toList ≤ last.size := by have := (comm_le last.data.toList r.key.data.toList).1; simpa using this
  refine ⟨by omega, by omega, d2.symm, rfl, sV_of (by omega), by omega, ?_, rfl, fun hg => ?_, fun hg => ?_⟩
  · rw [← b1, g2, key_again]
  · obtain ⟨y1, y2⟩ := d6 hg
    exact ⟨y1, y2.symm⟩
  · obtain ⟨y, g3, g4⟩ := textR_of (d7 hg)
    rw [g3] at h5
    injection h5 with z1 h5
    injection h5 with z2 z3
    subst z1
    exact ⟨g4, z2.symm, z3.symm⟩
end Go.Proofs.Ytniopekkfnkipaa
namespace Go.Proofs.Ytniopekkfnkipaa
open Go.RowKit
set_option linter.unusedVariables false
set_option linter.unusedSimpArgs false

/-- M is what stands from p1 on: nI records, all of them fine -/
def RCP (l : List UInt8) (time : Int) (p1 er1 : Nat) (nI : Int) (M : List Rec) (P : Nat → Nat) : Prop :=
  er1 = 0 ∧ time ≤ 1099511627776 ∧ M.length ≤ 64 ∧ (∀ r ∈ M, recE r = 0) ∧ nI = (M.length : Int) ∧ P 0 = p1 ∧ ∀ k, k < M.length → RecAt l time (prevKey M k) (P k) (M.getD k default) (P (k + 1))
theorem prevKey_take (M : List Rec) (k : Nat) : prevKey (M.take k) k = prevKey M k := by
  cases k with
  | zero => rfl
  | succ j =>
    show ((M.take (j + 1)).getD j default).key = (M.getD j default).key
    rw [List.getD_eq_getElem?_getD, List.getD_eq_getElem?_getD, List.getElem?_take_of_lt (by omega)]
theorem RCP.step {l : List UInt8} {time : Int} {p1 er1 k q : Nat} {nI : Int} {M L : List Rec} {P : Nat → Nat} (h : RCP l time p1 er1 nI M P) (hk : L.length = k) (hL : L = M.take k) (hq : q = P k) (hlt : (k : Int) < nI) :
    k < M.length ∧ time ≤ 1099511627776 ∧ recE (M.getD k default) = 0 ∧ RecAt l time (prevKey L k) q (M.getD k default) (P (k + 1)) ∧ M.take (k + 1) = L ++ [M.getD k default] := by
  obtain ⟨_, h2, _, h4, h5, _, h7⟩ := h
  have hm : k < M.length := by omega
  refine ⟨hm, h2, h4 _ (by rw [List.getD_eq_getElem?_getD, List.getElem?_eq_getElem hm]; exact List.getElem_mem _), ?_, ?_⟩
  · rw [hL, prevKey_take, hq]; exact h7 k hm
  · rw [List.take_succ_eq_append_getElem hm, ← hL, List.getD_eq_getElem?_getD, List.getElem?_eq_getElem hm]; rfl
theorem Two.grown {g : Nat} {w w' : World} (h : Two g g w w') : w.grownBy w' (some g) := ⟨h.os, h.tape, h.output, h.size, fun i hi hne => h.block i hi (fun e => hne (by rw [e])) (fun e => hne (by rw [e]))⟩
theorem Rq.setB {w : World} {g c p er b i : Nat} {A : Option Addr} {l : List UInt8} {u : Value} (h : Rq w g A c l p er) (hb : g < b) : Rq (w.setCell ⟨b, i, none⟩ u) g A c l p er :=
  h.below ((Below.refl (g + 1) w).setCell (p := ⟨b, i, none⟩) (by show g + 1 ≤ b; omega) u) (by omega)
theorem Rq.grow {w w' : World} {g c p er : Nat} {A : Option Addr} {l : List UInt8} {o : Option Nat} (h : Rq w g A c l p er) (hg : w.grownBy w' o) (ho : ∀ k, o = some k → g < k) : Rq w' g A c l p er :=
  h.below (B := g + 1) ⟨hg.os, hg.tape, hg.output, hg.size, fun i hi => hg.block i (by have := h.lt; omega) (fun e => by have := ho i e.symm; omega)⟩ (by omega)
theorem row_set4 {w : World} {b : Nat} {T : TypeId} {x0 x1 x2 x3 : Value} (y0 y1 y2 y3 : Value) (h : w.heap[b]? = some (.cells #[x0, x1, x2, x3] T (0, 0))) :
    ((((w.setCell ⟨b, 0, none⟩ y0).setCell ⟨b, 1, none⟩ y1).setCell ⟨b, 2, none⟩ y2).setCell ⟨b, 3, none⟩ y3).heap[b]? = some (.cells #[y0, y1, y2, y3] T (0, 0)) := by
  have h0 : (w.setCell ⟨b, 0, none⟩ y0).heap[b]? = some (.cells #[y0, x1, x2, x3] T (0, 0)) := by rw [heap_setCell_same _ b 0 _ _ _ h]; rfl
  have h1 : ((w.setCell ⟨b, 0, none⟩ y0).setCell ⟨b, 1, none⟩ y1).heap[b]? = some (.cells #[y0, y1, x2, x3] T (0, 0)) := by rw [heap_setCell_same _ b 1 _ _ _ h0]; rfl
  have h2 : (((w.setCell ⟨b, 0, none⟩ y0).setCell ⟨b, 1, none⟩ y1).setCell ⟨b, 2, none⟩ y2).heap[b]? = some (.cells #[y0, y1, y2, x3] T (0, 0)) := by rw [heap_setCell_same _ b 2 _ _ _ h1]; rfl
  rw [heap_setCell_same _ b 3 _ _ _ h2]; rfl

set_option maxRecDepth 100000 in
set_option maxHeartbeats 8000000 in
theorem rrecs_any (g c p er : Nat) (A : Option Addr) (l : List UInt8) (time : Int) (w : World) (h : Rq w g A c l p er) (t3 : 0 ≤ time) (t4 : time ≤ 2199023255552) :
    Calls Try.prog 23 #[.pointer (some ⟨g, 0, none⟩), .int .i64 time] w fun e w' => ∃ L A' c' q er', e = .returned (.slice A' (List.length L) c') ∧ L.length ≤ 65 ∧ L.length ≤ c' ∧ c' ≤ maxLen ∧ Rcs w' w'.heap.size A' L.length L ∧ (∀ p, A' = some p → w.heap.size ≤ p.block) ∧
      (∀ M P, RCP l time (uR l p er).2.1 (uR l p er).2.2 (sV (uR l p er).1) M P → L = M) ∧ Rq w' g A c l q er' ∧ w.grownBy w' (some g) := by
  have HU := Lib.hid (small_any h)
  have hsv := sV_in (uR l p er).1
  have hgl := h.lt
  obtain ⟨nI, hnI⟩ : ∃ nI, sV (uR l p er).1 = nI := ⟨_, rfl⟩
  rw [hnI] at HU hsv
  rw [hnI]
  generalize (uR l p er).2.1 = ps at *
  generalize (uR l p er).2.2 = es at *
  obtain ⟨X, hX⟩ : ∃ X : Ending → World → Prop, (fun (e : Ending) (w' : World) => ∃ L A' c' q er', e = .returned (.slice A' (List.length L) c') ∧ L.length ≤ 65 ∧ L.length ≤ c' ∧ c' ≤ maxLen ∧ Rcs w' w'.heap.size A' L.length L ∧ (∀ p, A' = some p → w.heap.size ≤ p.block) ∧
      (∀ M P, RCP l time ps es nI M P → L = M) ∧ Rq w' g A c l q er' ∧ w.grownBy w' (some g)) = X := ⟨_, rfl⟩
  have HX : Hid (∀ (L : List Rec) k A' c' q er' w', L.length = k → L.length ≤ 65 → L.length ≤ c' → c' ≤ maxLen → Rcs w' w'.heap.size A' L.length L → (∀ p, A' = some p → w.heap.size ≤ p.block) → (∀ M P, RCP l time ps es nI M P → L = M) → Rq w' g A c l q er' → w.grownBy w' (some g) → X (.returned (.slice A' k c')) w') := fun L k A' c' q er' w' a0 a1 a2 a3 a4 a5 a6 a7 a8 => by
    rw [← hX]; exact ⟨L, A', c', q, er', by rw [a0], a1, a2, a3, a4, a5, a6, a7, a8⟩
  have HX0 : Hid (∀ q er' w', (∀ M P, RCP l time ps es nI M P → False) → Rq w' g A c l q er' → Two g g w w' → X (.returned (.slice none 0 0)) w') := fun q er' w' a b c => HX.out [] 0 none 0 q er' w' rfl (by simp) (by simp) (by simp [maxLen]) Rcs.nil_ (fun p h => by cases h) (fun M P hM => (a M P hM).elim) b c.grown
  rw [hX]
  clear hX h hnI
  obtain ⟨j0, qj0, qy0, qy1, qy2⟩ := info_parts zero_rec
  go_enter Try.func23, Try.ntmps23
  go_wp2_with fail
  refine HU.out.mono ?_
  rintro e w1 ⟨rfl, hr1, hg1⟩
  have hT1 := Two.of_grown (d := g) hg1
  clear HU hg1
  go_wp2_with fail
  go_loopw [6, 7, 8] (fun v s i wx => ∃ (L : List Rec) (q er' : Nat), L.length ≤ 65 ∧ i = .int .i64 (L.length : Int) ∧ s = .string (prevKey L L.length) ∧ (prevKey L L.length).size ≤ 2000 * L.length ∧ (∀ r ∈ L, i64_ r.time) ∧ (∀ M P, RCP l time ps es nI M P → L = M.take L.length ∧ er' = 0 ∧ q = P L.length ∧ L.length ≤ M.length) ∧ wx.ownsRow w.heap.size 40 4 v L.length (rcells L) ∧ Rq wx g A c l q er' ∧ Two g g w wx) (fun _ _ i _ => 65 - (intOf i).toNat)
  case atStart => exact ⟨[], ps, es, by simp, rfl, rfl, by show (0 : Nat) ≤ _; omega, by simp, fun M P h => ⟨rfl, h.1, h.2.2.2.2.2.1.symm, Nat.zero_le _⟩, World.ownsRow_nil _ _ _ _, hr1, hT1⟩
  case round =>
    obtain ⟨L, q, er', hk, rfl, rfl, hps, hok, hcp, hown, hR, hT⟩ := hrel
    have zr := hT.size
    have HCP := Lib.hid hcp
    have HOK := Lib.hid hok
    have x2 := hR.c2
    clear hcp hok
    by_cases hgo : (L.length : Int) < nI ∧ L.length < 65 ∧ er' = 0
    · obtain ⟨g1, g2, g3⟩ := hgo
      subst g3
      obtain ⟨t, p1, e1, hE1⟩ := trip (iR l q 0)
      obtain ⟨on, p2, e2, hE2⟩ := trip (flagR l p1 e1)
      obtain ⟨u, p3, e3, hE3⟩ := trip (uR l p2 e2)
      obtain ⟨kl, p4, e4, hE4⟩ := trip (textR l p3 e3 2000)
      obtain ⟨vl, p5, e5, hE5⟩ := trip (textR l p4 e4 2000)
      have hkl : kl.length ≤ 2000 := by have := textR_len l p3 e3 2000; rw [hE4] at this; exact this
      have hpk2 : (prevKey L L.length).size ≤ 2000000 := by omega
      have HST : Hid (∀ M P, RCP l time ps es nI M P → ∃ r : Rec, L.length < M.length ∧ M.take (L.length + 1) = L ++ [r] ∧ t ≤ 2199023255552 ∧ -2199023255552 ≤ t ∧ time + t = r.time ∧ on = r.gone ∧ sV u = (u : Int) ∧ u ≤ (prevKey L L.length).size ∧ (prevKey L L.length).extract 0 u ++ ⟨kl.toArray⟩ = r.key ∧ e4 = 0 ∧ (r.gone = true → r.value = ⟨#[]⟩ ∧ p4 = P (L.length + 1)) ∧ (r.gone = false → (⟨vl.toArray⟩ : ByteArray) = r.value ∧ p5 = P (L.length + 1) ∧ e5 = 0)) := fun M P hM => by
        obtain ⟨a1, _, a3, a4⟩ := HCP.out M P hM
        obtain ⟨s1, s2, s3, s4, s5⟩ := hM.step rfl a1 a3 g1
        exact ⟨_, s1, s5, rcomp s4 s3 t3 s2 hpk2 hE1 hE2 hE3 hE4 hE5⟩
      have HI := Lib.hid (qI_any g c q 0 A l wr hR)
      rw [hE1] at HI
      have HE2 := Lib.hid hE2
      have HE3 := Lib.hid hE3
      have HE4 := Lib.hid hE4
      have HE5 := Lib.hid hE5
      obtain ⟨kx, hkx⟩ : ∃ kx : ByteArray, (⟨kl.toArray⟩ : ByteArray) = kx := ⟨_, rfl⟩
      have hkxs : kx.size ≤ 2000 := by rw [← hkx]; simpa [ByteArray.size] using hkl
      have HKX := Lib.hid hkx
      obtain ⟨vx, hvx⟩ : ∃ vx : ByteArray, (⟨vl.toArray⟩ : ByteArray) = vx := ⟨_, rfl⟩
      have HVX := Lib.hid hvx
      rw [hkx, hvx] at HST
      obtain ⟨pk, hpk⟩ : ∃ pk, prevKey L L.length = pk := ⟨_, rfl⟩
      rw [hpk] at HST hps hpk2
      rw [hpk]
      obtain ⟨k, hkk⟩ : ∃ k, L.length = k := ⟨_, rfl⟩
      have HKK := Lib.hid hkk
      rw [hkk] at HST hps hown g1 g2
      rw [hkk]
      have HOWN := Lib.hid hown
      have hil := iR_i64 l q 0
      rw [hE1] at hil
      have hil1 := hil.1
      have hil2 := hil.2
      have d1 : decide ((k : Int) < nI) = true := decide_eq_true g1
      have d2 : decide ((k : Int) < 65) = true := by rw [decide_eq_true_iff]; omega
      clear hown hpk hk hkk hE1 hE2 hE3 hE4 hE5 hkx hvx hkl hil hR
      go_wp2_with fail
      refine HI.out.mono ?_
      rintro e w1 ⟨rfl, hr1, hg1⟩
      have hT1 : Two g g wr w1 := Two.of_grown hg1
      clear hg1 HI x2
      by_cases ht1 : (2199023255552 : Int) < t
      · have d3 : decide ((2199023255552 : Int) < t) = true := decide_eq_true ht1
        have HF : Hid (∀ M P, RCP l time ps es nI M P → False) := fun M P hM => by
          obtain ⟨r, _, _, h3, _⟩ := HST.out M P hM
          omega
        go_wp2_with fail
        exact HX0.out _ _ _ HF.out hr1 (hT.trans hT1)
      by_cases ht2 : t < (-2199023255552 : Int)
      · have d3 : decide ((2199023255552 : Int) < t) = false := decide_eq_false ht1
        have d4 : decide (t < (-2199023255552 : Int)) = true := decide_eq_true ht2
        have HF : Hid (∀ M P, RCP l time ps es nI M P → False) := fun M P hM => by
          obtain ⟨r, _, _, _, h3, _⟩ := HST.out M P hM
          omega
        go_wp2_with fail
        exact HX0.out _ _ _ HF.out hr1 (hT.trans hT1)
      have d3 : decide ((2199023255552 : Int) < t) = false := decide_eq_false ht1
      have d4 : decide (t < (-2199023255552 : Int)) = false := decide_eq_false ht2
      have b1 : -2199023255552 ≤ time + t := by omega
      have b2 : time + t ≤ 4398046511104 := by omega
      have HFL := Lib.hid (qF_any g c p1 e1 A l w1 hr1)
      rw [HE2.out] at HFL
      have HT1 := Lib.hid hT1
      clear hr1 hT1
      go_wp2_with fail
      refine HFL.out.mono ?_
      rintro e w2 ⟨rfl, hr2, hg2⟩
      have hT2 := HT1.out.trans (Two.of_grown (d := g) hg2)
      clear hg2 HFL HT1
      have hgl3 : g < w2.heap.size := hr2.lt
      have HSM : Hid (∀ W, Rq W g A c l p2 e2 → Calls Try.prog 22 #[.pointer (some ⟨g, 0, none⟩)] W fun e w' => e = .returned (.int .i64 (sV u)) ∧ Rq w' g A c l p3 e3 ∧ W.grownBy w' (some g)) := fun W hW => by have := small_any hW; rw [HE3.out] at this; exact this
      have hb3 := heap_alloc_new w2 (.cells #[.string ⟨#[]⟩, .string ⟨#[]⟩, .bool on, .int .i64 (time + t)] 40)
      have hR3 : Rq (w2.alloc (.cells #[.string ⟨#[]⟩, .string ⟨#[]⟩, .bool on, .int .i64 (time + t)] 40)) g A c l p2 e2 := hr2.alloc (.cells #[.string ⟨#[]⟩, .string ⟨#[]⟩, .bool on, .int .i64 (time + t)] 40)
      have hT3 : Two g g wr (w2.alloc (.cells #[.string ⟨#[]⟩, .string ⟨#[]⟩, .bool on, .int .i64 (time + t)] 40)) := hT2.trans (Two.of_below ((Below.refl w2.heap.size w2).alloc (Nat.le_refl _) (.cells #[.string ⟨#[]⟩, .string ⟨#[]⟩, .bool on, .int .i64 (time + t)] 40)))
      have hz3 : w2.heap.size < (w2.alloc (.cells #[.string ⟨#[]⟩, .string ⟨#[]⟩, .bool on, .int .i64 (time + t)] 40)).heap.size := (Array.getElem?_eq_some_iff.1 hb3).1
      have HS := Lib.hid (HSM.out _ hR3)
      have HB3 := Lib.hid hb3
      have HT3 := Lib.hid hT3
      have hbx : wr.heap.size ≤ w2.heap.size := hT2.size
      clear hR3 hb3 hT3 hr2 hT2 HSM
      go_wp2_with fail
      generalize w2.alloc (.cells #[.string ⟨#[]⟩, .string ⟨#[]⟩, .bool on, .int .i64 (time + t)] 40) = w3 at *
      generalize w2.heap.size = bx at *
      refine HS.out.mono ?_
      rintro e w4 ⟨rfl, hr4, hg4⟩
      have hT4 := HT3.out.trans (Two.of_grown (d := g) hg4)
      have hb4 := (hg4.block bx hz3 (fun e => by injection e with e; omega)).trans HB3.out
      have hz4 : bx < w4.heap.size := (Array.getElem?_eq_some_iff.1 hb4).1
      have HTX := Lib.hid (qT_any g c p3 e3 A l 2000 w4 hr4 (by omega) (by omega))
      rw [HE4.out, HKX.out] at HTX
      have HB4 := Lib.hid hb4
      have HT4 := Lib.hid hT4
      clear hr4 hg4 hT4 hb4 HS HB3 HT3
      go_wp2_with fail
      refine HTX.out.mono ?_
      rintro e w5 ⟨rfl, hr5, hg5⟩
      have hT5 := HT4.out.trans (Two.of_grown (d := g) hg5)
      have hb5 := (hg5.block bx hz4 (fun e => by injection e with e; omega)).trans HB4.out
      have hz5 : bx < w5.heap.size := (Array.getElem?_eq_some_iff.1 hb5).1
      clear hg5 HTX HB4 HT4
      obtain ⟨su, hsu⟩ : ∃ su, sV u = su := ⟨_, rfl⟩
      have HSU := Lib.hid hsu
      have hsi := sV_in u
      rw [hsu] at HST hsi ⊢
      clear hsu
      by_cases hk1 : su < 0
      · have d5 : decide (su < 0) = true := decide_eq_true hk1
        have HF : Hid (∀ M P, RCP l time ps es nI M P → False) := fun M P hM => by
          obtain ⟨r, _, _, _, _, _, _, h7, _⟩ := HST.out M P hM
          omega
        go_wp2_with fail
        exact HX0.out _ _ _ HF.out hr5 (hT.trans hT5)
      by_cases hk2 : (pk.size : Int) < su
      · have d5 : decide (su < 0) = false := decide_eq_false hk1
        have d6 : decide ((pk.size : Int) < su) = true := decide_eq_true hk2
        have HF : Hid (∀ M P, RCP l time ps es nI M P → False) := fun M P hM => by
          obtain ⟨r, _, _, _, _, _, _, h7, h8, _⟩ := HST.out M P hM
          omega
        go_wp2_with fail
        exact HX0.out _ _ _ HF.out hr5 (hT.trans hT5)
      obtain ⟨m, rfl⟩ : ∃ m : Nat, su = (m : Int) := ⟨su.toNat, by omega⟩
      have d5 : decide ((m : Int) < 0) = false := decide_eq_false hk1
      have d6 : decide ((pk.size : Int) < (m : Int)) = false := decide_eq_false hk2
      have hm : m ≤ pk.size := by omega
      have hks : (pk.extract 0 m ++ kx).size ≤ pk.size + 2000 := by rw [ByteArray.size_append, ByteArray.size_extract]; omega
      have gn0 : (0 : Int) ≤ (m : Int) := by omega
      have gn1 : (m : Int) ≤ (pk.size : Int) := by omega
      have hq1 : ¬ 9223372036854775807 < (pk.extract 0 m).size + kx.size := by rw [ByteArray.size_extract]; omega
      have hq2 : ¬ 9223372036854775807 < min m pk.size + kx.size := by omega
      have hq5 : ¬ 9223372036854775807 < m + kx.size := by omega
      have y0 : w5.cell? ⟨bx, 0, none⟩ = some (.string ⟨#[]⟩) := cell_of_row w5 _ 0 _ _ _ hb5
      have f0 : w5.frozen? ⟨bx, 0, none⟩ = false := frozen_of_row w5 _ 0 _ _ hb5
      have HB5 := Lib.hid hb5
      have HT5 := Lib.hid hT5
      have HR5 := Lib.hid hr5
      clear hb5 hT5 hr5
      obtain ⟨key, hkey⟩ : ∃ key, pk.extract 0 m ++ kx = key := ⟨_, rfl⟩
      have HKEY := Lib.hid hkey
      rw [hkey] at hks
      clear hkey
      go_upto_region 16 with fail
      rw [HKEY.out]
      have hb6 : (w5.setCell ⟨bx, 0, none⟩ (.string key)).heap[bx]? = some (.cells #[.string key, .string ⟨#[]⟩, .bool on, .int .i64 (time + t)] 40 (0, 0)) := by rw [heap_setCell_same w5 _ 0 _ _ _ HB5.out]; rfl
      have hR6 := HR5.out.setB (i := 0) (u := .string key) (b := bx) (by omega)
      have hT6 := HT5.out.new (i := 0) (b := bx) (.string key) hbx
      have y2 : (w5.setCell ⟨bx, 0, none⟩ (.string key)).cell? ⟨bx, 2, none⟩ = some (.bool on) := cell_of_row _ _ 2 _ _ _ hb6
      have HB6 := Lib.hid hb6
      have HT6 := Lib.hid hT6
      have HR6 := Lib.hid hR6
      clear hb6 hT6 hR6 HB5 HT5 HR5 hq1 hq2 hq5
      cases on with
      | true =>
        have m0 : (w5.setCell ⟨bx, 0, none⟩ (.string key)).cell? ⟨bx, 0, none⟩ = some (.string key) := cell_of_row _ _ 0 _ _ _ HB6.out
        have m1 : (w5.setCell ⟨bx, 0, none⟩ (.string key)).cell? ⟨bx, 1, none⟩ = some (.string ⟨#[]⟩) := cell_of_row _ _ 1 _ _ _ HB6.out
        have m3 : (w5.setCell ⟨bx, 0, none⟩ (.string key)).cell? ⟨bx, 3, none⟩ = some (.int .i64 (time + t)) := cell_of_row _ _ 3 _ _ _ HB6.out
        have HCF : Hid (∀ M P, RCP l time ps es nI M P → L ++ [⟨key, ⟨#[]⟩, true, time + t⟩] = M.take (k + 1) ∧ e4 = 0 ∧ p4 = P (k + 1) ∧ k + 1 ≤ M.length) := fun M P hM => by
          obtain ⟨r, h1, h2, h3, h4, h5, h6, h7, h8, h9, h10, h11, _⟩ := HST.out M P hM
          have hmu : m = u := by omega
          rw [← hmu, HKEY.out] at h9
          obtain ⟨h12, h13⟩ := h11 h6.symm
          obtain ⟨rk, rv, rg, rtt⟩ := r
          simp only at h5 h6 h9 h12
          subst h5 h6 h9 h12
          exact ⟨h2.symm, h10, h13, h1⟩
        have hownF := row_two HOWN.out HT6.out (by omega) (by omega)
        have HLT := Lib.hid (World.ownsRow.lt hownF)
        have HOWNA := Lib.hid (hownF.alloc (.cells #[.string key, .string ⟨#[]⟩, .bool true, .int .i64 (time + t)] 40))
        have HRA := Lib.hid (HR6.out.alloc (.cells #[.string key, .string ⟨#[]⟩, .bool true, .int .i64 (time + t)] 40))
        have HTA := Lib.hid ((hT.trans HT6.out).trans (Two.of_below ((Below.refl (w5.setCell ⟨bx, 0, none⟩ (.string key)).heap.size _).alloc (Nat.le_refl _) (.cells #[.string key, .string ⟨#[]⟩, .bool true, .int .i64 (time + t)] 40))))
        have zz : wr.heap.size ≤ w5.heap.size := by simpa using HT6.out.size
        have hnb : ∀ j u, [Value.string key, .string ⟨#[]⟩, .bool true, .int .i64 (time + t)][j]? = some u → ((w5.setCell ⟨bx, 0, none⟩ (.string key)).alloc (.cells #[.string key, .string ⟨#[]⟩, .bool true, .int .i64 (time + t)] 40)).cell? ((⟨(w5.setCell ⟨bx, 0, none⟩ (.string key)).heap.size, 0, none⟩ : Addr).add j) = some u := fun j u hj => by
          have := (Lies.of_new (w5.setCell ⟨bx, 0, none⟩ (.string key)) #[.string key, .string ⟨#[]⟩, .bool true, .int .i64 (time + t)] 40).get j u hj
          obtain ⟨q, hq, _, hc⟩ := this
          injection hq with hq
          subst hq
          exact hc
        rw [show (w5.setCell ⟨bx, 0, none⟩ (.string key)).heap.size = w5.heap.size from by simp] at hnb
        have HNB := Lib.hid hnb
        clear hownF hnb HT6 HR6 HB6 HOWN HST HE2 HE3 HE4 HE5
        go_wp2_with (at_builtin; go_loud (refine wpList_append_own_at _ rfl (.tmp 70) (.tmp 72) 22 rfl w.heap.size 40 j0 _ 4 48 Try.underlying22 qj0 qy0 qy1 qy2 rfl (by decide) _ k (rcells L) rfl HOWNA.out ⟨w5.heap.size, 0, none⟩ 1 1 [Value.string key, .string ⟨#[]⟩, .bool true, .int .i64 (time + t)] rfl rfl HNB.out ?g1 ?g2 ?g3 ?g4 ?_))
        case g1 => intro u hu; simp at hu; rcases hu with rfl | rfl | rfl | rfl <;> rfl
        case g2 => unfold maxLen; omega
        case g3 => omega
        case g4 => simp; omega
        intro v8 w8 hown8 hg8 _ _
        have hR8 := HRA.out.grow hg8 (fun k hk => by have := (HLT.out k hk).1; omega)
        have hT8 := HTA.out.grow hg8 (fun k hk => (HLT.out k hk).1)
        have HR8 := Lib.hid hR8
        have HT8 := Lib.hid hT8
        have HOWN8 := Lib.hid hown8
        clear hR8 hT8 hown8 hg8 HRA HTA HOWNA HNB
        go_wp2
        go_roundw
        case rel =>
          have hl2 : (L ++ [(⟨key, ⟨#[]⟩, true, time + t⟩ : Rec)]).length = k + 1 := by rw [List.length_append, HKK.out]; rfl
          have hpl : prevKey (L ++ [(⟨key, ⟨#[]⟩, true, time + t⟩ : Rec)]) (k + 1) = key := by rw [← HKK.out]; exact prevKey_last L _
          refine ⟨L ++ [⟨key, ⟨#[]⟩, true, time + t⟩], p4, e4, by rw [hl2]; omega, by rw [hl2]; go_num, by rw [hl2, hpl], by rw [hl2, hpl]; omega, ?_, ?_, ?_, HR8.out, HT8.out⟩
          · intro r hr
            rcases List.mem_append.1 hr with hr | hr
            · exact HOK.out r hr
            · rw [List.mem_singleton.1 hr]; unfold i64_; show -9223372036854775808 ≤ time + t ∧ time + t ≤ _; omega
          · intro M P hM
            rw [hl2]
            exact HCF.out M P hM
          · rw [hl2, rcells_append]
            exact HOWN8.out
        case measure => simp [intOf]; omega
      | false =>
        have HTX := Lib.hid (qT_any g c p4 e4 A l 2000 _ HR6.out (by omega) (by omega))
        rw [HE5.out, HVX.out] at HTX
        go_wp2_with fail
        generalize w5.setCell ⟨bx, 0, none⟩ (.string key) = w6 at *
        refine HTX.out.mono ?_
        rintro e w7 ⟨rfl, hr7, hg7⟩
        have hz6 : bx < w6.heap.size := (Array.getElem?_eq_some_iff.1 HB6.out).1
        have hT7 := HT6.out.trans (Two.of_grown (d := g) hg7)
        have hb7 := (hg7.block bx hz6 (fun e => by injection e with e; omega)).trans HB6.out
        have y1 : w7.cell? ⟨bx, 1, none⟩ = some (.string ⟨#[]⟩) := cell_of_row w7 _ 1 _ _ _ hb7
        have f1 : w7.frozen? ⟨bx, 1, none⟩ = false := frozen_of_row w7 _ 1 _ _ hb7
        have hb8 : (w7.setCell ⟨bx, 1, none⟩ (.string vx)).heap[bx]? = some (.cells #[.string key, .string vx, .bool false, .int .i64 (time + t)] 40 (0, 0)) := by rw [heap_setCell_same w7 _ 1 _ _ _ hb7]; rfl
        have HR6' := Lib.hid (hr7.setB (i := 1) (u := .string vx) (b := bx) (by omega))
        have HT6' := Lib.hid (hT7.new (i := 1) (b := bx) (.string vx) hbx)
        have HB6' := Lib.hid hb8
        clear hr7 hg7 hT7 hb7 hb8 HTX HR6 HT6 HB6 y2
        have HR6 := HR6'
        have HT6 := HT6'
        have HB6 := HB6'
        clear HR6' HT6' HB6'
        have m0 : (w7.setCell ⟨bx, 1, none⟩ (.string vx)).cell? ⟨bx, 0, none⟩ = some (.string key) := cell_of_row _ _ 0 _ _ _ HB6.out
        have m1 : (w7.setCell ⟨bx, 1, none⟩ (.string vx)).cell? ⟨bx, 1, none⟩ = some (.string vx) := cell_of_row _ _ 1 _ _ _ HB6.out
        have m2 : (w7.setCell ⟨bx, 1, none⟩ (.string vx)).cell? ⟨bx, 2, none⟩ = some (.bool false) := cell_of_row _ _ 2 _ _ _ HB6.out
        have m3 : (w7.setCell ⟨bx, 1, none⟩ (.string vx)).cell? ⟨bx, 3, none⟩ = some (.int .i64 (time + t)) := cell_of_row _ _ 3 _ _ _ HB6.out
        have HCF : Hid (∀ M P, RCP l time ps es nI M P → L ++ [⟨key, vx, false, time + t⟩] = M.take (k + 1) ∧ e5 = 0 ∧ p5 = P (k + 1) ∧ k + 1 ≤ M.length) := fun M P hM => by
          obtain ⟨r, h1, h2, h3, h4, h5, h6, h7, h8, h9, h10, h11, h14⟩ := HST.out M P hM
          have hmu : m = u := by omega
          rw [← hmu, HKEY.out] at h9
          obtain ⟨h12, h13, h15⟩ := h14 h6.symm
          obtain ⟨rk, rv, rg, rtt⟩ := r
          simp only at h5 h6 h9 h12
          subst h5 h6 h9 h12
          exact ⟨h2.symm, h15, h13, h1⟩
        have hownF := row_two HOWN.out HT6.out (by omega) (by omega)
        have HLT := Lib.hid (World.ownsRow.lt hownF)
        have HOWNA := Lib.hid (hownF.alloc (.cells #[.string key, .string vx, .bool false, .int .i64 (time + t)] 40))
        have HRA := Lib.hid (HR6.out.alloc (.cells #[.string key, .string vx, .bool false, .int .i64 (time + t)] 40))
        have HTA := Lib.hid ((hT.trans HT6.out).trans (Two.of_below ((Below.refl (w7.setCell ⟨bx, 1, none⟩ (.string vx)).heap.size _).alloc (Nat.le_refl _) (.cells #[.string key, .string vx, .bool false, .int .i64 (time + t)] 40))))
        have zz : wr.heap.size ≤ w7.heap.size := by simpa using HT6.out.size
        have hnb : ∀ j u, [Value.string key, .string vx, .bool false, .int .i64 (time + t)][j]? = some u → ((w7.setCell ⟨bx, 1, none⟩ (.string vx)).alloc (.cells #[.string key, .string vx, .bool false, .int .i64 (time + t)] 40)).cell? ((⟨(w7.setCell ⟨bx, 1, none⟩ (.string vx)).heap.size, 0, none⟩ : Addr).add j) = some u := fun j u hj => by
          have := (Lies.of_new (w7.setCell ⟨bx, 1, none⟩ (.string vx)) #[.string key, .string vx, .bool false, .int .i64 (time + t)] 40).get j u hj
          obtain ⟨q, hq, _, hc⟩ := this
          injection hq with hq
          subst hq
          exact hc
        rw [show (w7.setCell ⟨bx, 1, none⟩ (.string vx)).heap.size = w7.heap.size from by simp] at hnb
        have HNB := Lib.hid hnb
        clear hownF hnb HT6 HR6 HB6 HOWN HST HE2 HE3 HE4 HE5
        go_wp2_with (at_builtin; go_loud (refine wpList_append_own_at _ rfl (.tmp 70) (.tmp 72) 22 rfl w.heap.size 40 j0 _ 4 48 Try.underlying22 qj0 qy0 qy1 qy2 rfl (by decide) _ k (rcells L) rfl HOWNA.out ⟨w7.heap.size, 0, none⟩ 1 1 [Value.string key, .string vx, .bool false, .int .i64 (time + t)] rfl rfl HNB.out ?g1 ?g2 ?g3 ?g4 ?_))
        case g1 => intro u hu; simp at hu; rcases hu with rfl | rfl | rfl | rfl <;> rfl
        case g2 => unfold maxLen; omega
        case g3 => omega
        case g4 => simp; omega
        intro v8 w8 hown8 hg8 _ _
        have hR8 := HRA.out.grow hg8 (fun k hk => by have := (HLT.out k hk).1; omega)
        have hT8 := HTA.out.grow hg8 (fun k hk => (HLT.out k hk).1)
        have HR8 := Lib.hid hR8
        have HT8 := Lib.hid hT8
        have HOWN8 := Lib.hid hown8
        clear hR8 hT8 hown8 hg8 HRA HTA HOWNA HNB
        go_wp2
        go_roundw
        case rel =>
          have hl2 : (L ++ [(⟨key, vx, false, time + t⟩ : Rec)]).length = k + 1 := by rw [List.length_append, HKK.out]; rfl
          have hpl : prevKey (L ++ [(⟨key, vx, false, time + t⟩ : Rec)]) (k + 1) = key := by rw [← HKK.out]; exact prevKey_last L _
          refine ⟨L ++ [⟨key, vx, false, time + t⟩], p5, e5, by rw [hl2]; omega, by rw [hl2]; go_num, by rw [hl2, hpl], by rw [hl2, hpl]; omega, ?_, ?_, ?_, HR8.out, HT8.out⟩
          · intro r hr
            rcases List.mem_append.1 hr with hr | hr
            · exact HOK.out r hr
            · rw [List.mem_singleton.1 hr]; unfold i64_; show -9223372036854775808 ≤ time + t ∧ time + t ≤ _; omega
          · intro M P hM
            rw [hl2]
            exact HCF.out M P hM
          · rw [hl2, rcells_append]
            exact HOWN8.out
        case measure => simp [intOf]; omega
    · have HFIN : Hid (∀ M P, RCP l time ps es nI M P → L = M) := fun M P hM => by
        obtain ⟨a1, a2, a3, a4⟩ := HCP.out M P hM
        obtain ⟨_, _, b3, _, b5, _, _⟩ := hM
        rw [a1, List.take_of_length_le (by omega)]
      obtain ⟨A', c', rfl, h1, h2, h3, h4⟩ := Rcs.of_own hown rfl HOK.out
      have H3 := Lib.hid h3
      have H4 := Lib.hid h4
      have HR := Lib.hid hR
      obtain ⟨k, hkk⟩ : ∃ k, L.length = k := ⟨_, rfl⟩
      have HKK := Lib.hid hkk
      rw [hkk] at hk hps hgo h1
      rw [hkk]
      clear h3 h4 hown hR hkk
      by_cases g1 : (k : Int) < nI
      · by_cases g2 : k < 65
        · have g3 : er' ≠ 0 := fun e => hgo ⟨g1, g2, e⟩
          have d1 : decide ((k : Int) < nI) = true := decide_eq_true g1
          have d2 : decide ((k : Int) < 65) = true := by rw [decide_eq_true_iff]; omega
          have d3 : ((er' : Int) == 0) = false := by rw [beq_eq_false_iff_ne]; omega
          clear hgo
          go_wp2_with fail
          exact HX.out L k A' c' q er' _ HKK.out (by rw [HKK.out]; exact hk) (by rw [HKK.out]; exact h1) h2 H3.out (fun p hp => by have := H4.out p hp; omega) HFIN.out HR.out hT.grown
        · have d1 : decide ((k : Int) < nI) = true := decide_eq_true g1
          have d2 : decide ((k : Int) < 65) = false := by rw [decide_eq_false_iff_not]; omega
          clear hgo
          go_wp2_with fail
          exact HX.out L k A' c' q er' _ HKK.out (by rw [HKK.out]; exact hk) (by rw [HKK.out]; exact h1) h2 H3.out (fun p hp => by have := H4.out p hp; omega) HFIN.out HR.out hT.grown
      · have d1 : decide ((k : Int) < nI) = false := decide_eq_false g1
        clear hgo
        go_wp2_with fail
        exact HX.out L k A' c' q er' _ HKK.out (by rw [HKK.out]; exact hk) (by rw [HKK.out]; exact h1) h2 H3.out (fun p hp => by have := H4.out p hp; omega) HFIN.out HR.out hT.grown
end Go.Proofs.Ytniopekkfnkipaa
namespace Go.Proofs.Ytniopekkfnkipaa
open Go.RowKit
set_option linter.unusedVariables false
set_option linter.unusedSimpArgs false

/-- the batch as it is read, in block bx; the document's reader in block g; the answer in the block behind w -/
structure RDs (w wx : World) (g bx : Nat) (A : Option Addr) (c : Nat) (l : List UInt8) (x0 x1 x2 x3 x4 x5 x6 : Value) (q r : Nat) : Prop where
  row : wx.heap[bx]? = some (.cells #[x0, x1, x2, x3, x4, x5, x6] 24 (0, 0))
  rq : Rq wx g A c l q r
  bel : Below w.heap.size w wx
  res : wx.heap[w.heap.size]? = some (.cells #[.int .i64 0, .int .i64 0, .int .i64 0, .int .i64 0, .int .i64 0, .int .i64 0, .slice none 0 0] 24 (0, 0))
  g0 : w.heap.size < g
  g1 : g < bx
section
variable {w wx w' : World} {g bx c q r q' r' : Nat} {A : Option Addr} {l : List UInt8} {x0 x1 x2 x3 x4 x5 x6 : Value}
theorem RDs.lt (h : RDs w wx g bx A c l x0 x1 x2 x3 x4 x5 x6 q r) : bx < wx.heap.size := (Array.getElem?_eq_some_iff.1 h.row).1
theorem RDs.call (h : RDs w wx g bx A c l x0 x1 x2 x3 x4 x5 x6 q r) (hr : Rq w' g A c l q' r') (hg : wx.grownBy w' (some g)) : RDs w w' g bx A c l x0 x1 x2 x3 x4 x5 x6 q' r' := by
  have h0 := h.g0; have h1 := h.g1; have h2 := h.lt
  exact ⟨(hg.block bx h2 (fun e => by injection e with e; omega)).trans h.row, hr, h.bel.trans (below_of_grown hg (by omega) h.bel.size), (hg.block w.heap.size (by omega) (fun e => by injection e with e; omega)).trans h.res, h0, h1⟩
theorem RDs.below (h : RDs w wx g bx A c l x0 x1 x2 x3 x4 x5 x6 q r) (hb : Below wx.heap.size wx w') : RDs w w' g bx A c l x0 x1 x2 x3 x4 x5 x6 q r := by
  have h0 := h.g0; have h1 := h.g1; have h2 := h.lt
  exact ⟨(hb.block bx h2).trans h.row, h.rq.below hb h.rq.lt, h.bel.trans (hb.mono h.bel.size), (hb.block w.heap.size (by omega)).trans h.res, h0, h1⟩
theorem RDs.c0 (h : RDs w wx g bx A c l x0 x1 x2 x3 x4 x5 x6 q r) : wx.cell? ⟨bx, 0, none⟩ = some x0 := cell_of_row _ _ 0 _ _ _ h.row
theorem RDs.f0 (h : RDs w wx g bx A c l x0 x1 x2 x3 x4 x5 x6 q r) : wx.frozen? ⟨bx, 0, none⟩ = false := frozen_of_row _ _ 0 _ _ h.row
theorem RDs.put0 (h : RDs w wx g bx A c l x0 x1 x2 x3 x4 x5 x6 q r) (u : Value) : RDs w (wx.setCell ⟨bx, 0, none⟩ u) g bx A c l u x1 x2 x3 x4 x5 x6 q r := by
  have h0 := h.g0; have h1 := h.g1; have h2 := h.lt
  have k := grown_set wx bx 0 u
  exact ⟨by rw [heap_setCell_same wx bx 0 _ _ _ h.row]; rfl, h.rq.setB h1, h.bel.setCell (by show w.heap.size ≤ bx; omega) u, (k.block w.heap.size (by omega) (fun e => by injection e with e; omega)).trans h.res, h0, h1⟩
theorem RDs.c1 (h : RDs w wx g bx A c l x0 x1 x2 x3 x4 x5 x6 q r) : wx.cell? ⟨bx, 1, none⟩ = some x1 := cell_of_row _ _ 1 _ _ _ h.row
theorem RDs.f1 (h : RDs w wx g bx A c l x0 x1 x2 x3 x4 x5 x6 q r) : wx.frozen? ⟨bx, 1, none⟩ = false := frozen_of_row _ _ 1 _ _ h.row
theorem RDs.put1 (h : RDs w wx g bx A c l x0 x1 x2 x3 x4 x5 x6 q r) (u : Value) : RDs w (wx.setCell ⟨bx, 1, none⟩ u) g bx A c l x0 u x2 x3 x4 x5 x6 q r := by
  have h0 := h.g0; have h1 := h.g1; have h2 := h.lt
  have k := grown_set wx bx 1 u
  exact ⟨by rw [heap_setCell_same wx bx 1 _ _ _ h.row]; rfl, h.rq.setB h1, h.bel.setCell (by show w.heap.size ≤ bx; omega) u, (k.block w.heap.size (by omega) (fun e => by injection e with e; omega)).trans h.res, h0, h1⟩
theorem RDs.c2 (h : RDs w wx g bx A c l x0 x1 x2 x3 x4 x5 x6 q r) : wx.cell? ⟨bx, 2, none⟩ = some x2 := cell_of_row _ _ 2 _ _ _ h.row
theorem RDs.f2 (h : RDs w wx g bx A c l x0 x1 x2 x3 x4 x5 x6 q r) : wx.frozen? ⟨bx, 2, none⟩ = false := frozen_of_row _ _ 2 _ _ h.row
theorem RDs.put2 (h : RDs w wx g bx A c l x0 x1 x2 x3 x4 x5 x6 q r) (u : Value) : RDs w (wx.setCell ⟨bx, 2, none⟩ u) g bx A c l x0 x1 u x3 x4 x5 x6 q r := by
  have h0 := h.g0; have h1 := h.g1; have h2 := h.lt
  have k := grown_set wx bx 2 u
  exact ⟨by rw [heap_setCell_same wx bx 2 _ _ _ h.row]; rfl, h.rq.setB h1, h.bel.setCell (by show w.heap.size ≤ bx; omega) u, (k.block w.heap.size (by omega) (fun e => by injection e with e; omega)).trans h.res, h0, h1⟩
theorem RDs.c3 (h : RDs w wx g bx A c l x0 x1 x2 x3 x4 x5 x6 q r) : wx.cell? ⟨bx, 3, none⟩ = some x3 := cell_of_row _ _ 3 _ _ _ h.row
theorem RDs.f3 (h : RDs w wx g bx A c l x0 x1 x2 x3 x4 x5 x6 q r) : wx.frozen? ⟨bx, 3, none⟩ = false := frozen_of_row _ _ 3 _ _ h.row
theorem RDs.put3 (h : RDs w wx g bx A c l x0 x1 x2 x3 x4 x5 x6 q r) (u : Value) : RDs w (wx.setCell ⟨bx, 3, none⟩ u) g bx A c l x0 x1 x2 u x4 x5 x6 q r := by
  have h0 := h.g0; have h1 := h.g1; have h2 := h.lt
  have k := grown_set wx bx 3 u
  exact ⟨by rw [heap_setCell_same wx bx 3 _ _ _ h.row]; rfl, h.rq.setB h1, h.bel.setCell (by show w.heap.size ≤ bx; omega) u, (k.block w.heap.size (by omega) (fun e => by injection e with e; omega)).trans h.res, h0, h1⟩
theorem RDs.c4 (h : RDs w wx g bx A c l x0 x1 x2 x3 x4 x5 x6 q r) : wx.cell? ⟨bx, 4, none⟩ = some x4 := cell_of_row _ _ 4 _ _ _ h.row
theorem RDs.f4 (h : RDs w wx g bx A c l x0 x1 x2 x3 x4 x5 x6 q r) : wx.frozen? ⟨bx, 4, none⟩ = false := frozen_of_row _ _ 4 _ _ h.row
theorem RDs.put4 (h : RDs w wx g bx A c l x0 x1 x2 x3 x4 x5 x6 q r) (u : Value) : RDs w (wx.setCell ⟨bx, 4, none⟩ u) g bx A c l x0 x1 x2 x3 u x5 x6 q r := by
  have h0 := h.g0; have h1 := h.g1; have h2 := h.lt
  have k := grown_set wx bx 4 u
  exact ⟨by rw [heap_setCell_same wx bx 4 _ _ _ h.row]; rfl, h.rq.setB h1, h.bel.setCell (by show w.heap.size ≤ bx; omega) u, (k.block w.heap.size (by omega) (fun e => by injection e with e; omega)).trans h.res, h0, h1⟩
theorem RDs.c5 (h : RDs w wx g bx A c l x0 x1 x2 x3 x4 x5 x6 q r) : wx.cell? ⟨bx, 5, none⟩ = some x5 := cell_of_row _ _ 5 _ _ _ h.row
theorem RDs.f5 (h : RDs w wx g bx A c l x0 x1 x2 x3 x4 x5 x6 q r) : wx.frozen? ⟨bx, 5, none⟩ = false := frozen_of_row _ _ 5 _ _ h.row
theorem RDs.put5 (h : RDs w wx g bx A c l x0 x1 x2 x3 x4 x5 x6 q r) (u : Value) : RDs w (wx.setCell ⟨bx, 5, none⟩ u) g bx A c l x0 x1 x2 x3 x4 u x6 q r := by
  have h0 := h.g0; have h1 := h.g1; have h2 := h.lt
  have k := grown_set wx bx 5 u
  exact ⟨by rw [heap_setCell_same wx bx 5 _ _ _ h.row]; rfl, h.rq.setB h1, h.bel.setCell (by show w.heap.size ≤ bx; omega) u, (k.block w.heap.size (by omega) (fun e => by injection e with e; omega)).trans h.res, h0, h1⟩
theorem RDs.c6 (h : RDs w wx g bx A c l x0 x1 x2 x3 x4 x5 x6 q r) : wx.cell? ⟨bx, 6, none⟩ = some x6 := cell_of_row _ _ 6 _ _ _ h.row
theorem RDs.f6 (h : RDs w wx g bx A c l x0 x1 x2 x3 x4 x5 x6 q r) : wx.frozen? ⟨bx, 6, none⟩ = false := frozen_of_row _ _ 6 _ _ h.row
theorem RDs.put6 (h : RDs w wx g bx A c l x0 x1 x2 x3 x4 x5 x6 q r) (u : Value) : RDs w (wx.setCell ⟨bx, 6, none⟩ u) g bx A c l x0 x1 x2 x3 x4 x5 u q r := by
  have h0 := h.g0; have h1 := h.g1; have h2 := h.lt
  have k := grown_set wx bx 6 u
  exact ⟨by rw [heap_setCell_same wx bx 6 _ _ _ h.row]; rfl, h.rq.setB h1, h.bel.setCell (by show w.heap.size ≤ bx; omega) u, (k.block w.heap.size (by omega) (fun e => by injection e with e; omega)).trans h.res, h0, h1⟩
end
/-- the records that stand at q7 are b's -/
def HL (l : List UInt8) (b : Bat) (q7 : Nat) : Prop := (markB b = true → b.L = []) ∧ (markB b = false → ∃ P : Nat → Nat, dUint l q7 = .ok (.int .u64 (b.L.length : Int)) (P 0) ∧ ∀ k, k < b.L.length → RecAt l b.time (prevKey b.L k) (P k) (b.L.getD k default) (P (k + 1)))
theorem small_of {l : List UInt8} {p q u q' r' : Nat} {n : Int} (h : dUint l p = .ok (.int .u64 (n.toNat : Int)) q) (h0 : 0 ≤ n) (h1 : n ≤ 1099511627776) (hu : uR l p 0 = (u, q', r')) : sV u = n ∧ q' = q ∧ r' = 0 := by
  rw [uR_of h] at hu
  injection hu with a b
  injection b with b d
  subst a b d
  refine ⟨?_, rfl, rfl⟩
  rw [sV_of (by omega)]; omega
/-- the numbers behind the pid are b's -/
def HM (l : List UInt8) (b : Bat) (q4 : Nat) : Prop := ∃ p5 p6 q7, (b.pid = 0 → b.epoch = 0 ∧ b.seq = 0 ∧ p6 = q4) ∧ (b.pid ≠ 0 → dUint l q4 = .ok (.int .u64 (b.epoch.toNat : Int)) p5 ∧ (markB b = true → b.seq = 0 ∧ p6 = p5) ∧ (markB b = false → dUint l p5 = .ok (.int .u64 (b.seq.toNat : Int)) p6)) ∧ dUint l p6 = .ok (.int .u64 (b.time.toNat : Int)) q7 ∧ HL l b q7
theorem head_comp {l : List UInt8} {b : Bat} {b0 q1 r1 kind q2 r2 u1 q3 r3 u2 q4 r4 : Nat} (h : BatAt l b) (h1 : byteR l 0 0 = (b0, q1, r1)) (h2 : byteR l q1 r1 = (kind, q2, r2)) (h3 : uR l q2 r2 = (u1, q3, r3)) (h4 : uR l q3 r3 = (u2, q4, r4)) :
    (kind : Int) = b.kind ∧ sV u1 = b.base ∧ sV u2 = b.pid ∧ r4 = 0 ∧ HM l b q4 := by
  have hF := h.fine
  have a1 := hF.b1; have a2 := hF.b2; have a3 := hF.p1; have a4 := hF.p2; have a5 := hF.e1; have a7 := hF.s1; have a9 := hF.k1; have a10 := hF.k2; have a11 := hF.t1
  obtain ⟨q, hh, hm1, hm0⟩ := h.at_
  obtain ⟨p3, p4, p5, p6, e1, e2, e3, e4, e5, e6, e7⟩ := hh.at_
  rw [byteR_of (b := 1) e1] at h1
  injection h1 with _ h1
  injection h1 with b2 b3
  subst b2 b3
  rw [byteR_of e2] at h2
  injection h2 with c1 h2
  injection h2 with c2 c3
  subst c2 c3
  obtain ⟨d1, d2, d3⟩ := small_of e3 a1 a2 h3
  subst d2 d3
  obtain ⟨f1, f2, f3⟩ := small_of e4 a3 (by omega) h4
  subst f2 f3
  refine ⟨by omega, d1, f1, rfl, p5, p6, q, fun hp => ?_, fun hp => ?_, e7, fun hm => (hm1 hm).1, fun hm => ?_⟩
  · obtain ⟨x, y, z⟩ := e5 (by omega)
    exact ⟨by omega, by omega, z⟩
  · obtain ⟨x, y, z⟩ := e6 (by omega)
    exact ⟨x, fun hm => ⟨by have := (y hm).1; omega, (y hm).2⟩, z⟩
  · obtain ⟨P, v1, v2, v3⟩ := hm0 hm
    exact ⟨P, v1, v3⟩
/-- what Decode of the bytes l answers -/
def Dec (l : List UInt8) (b : Bat) (er : Int) : Prop := (BatAt l b ∧ er = 0) ∨ ((∀ b', ¬ BatAt l b') ∧ b = ⟨0, 0, 0, 0, 0, 0, []⟩ ∧ er = 6)
theorem Dec.one {l : List UInt8} {b b' : Bat} {er er' : Int} (h : Dec l b er) (h' : Dec l b' er') : b = b' ∧ er = er' := by
  rcases h with ⟨h1, h2⟩ | ⟨h1, h2, h3⟩
  · rcases h' with ⟨k1, k2⟩ | ⟨k1, _, _⟩
    · exact ⟨batAt_one h1 k1, by omega⟩
    · exact absurd h1 (k1 _)
  · rcases h' with ⟨k1, k2⟩ | ⟨k1, k2, k3⟩
    · exact absurd k1 (h1 _)
    · exact ⟨by rw [h2, k2], by omega⟩
theorem pdecode_any (A : Option Addr) (n c B : Nat) (l : List UInt8) (w : World) (hbs : Bs w B A n l) (hn : n ≤ 1099511627776) (hB : B ≤ w.heap.size) :
    Calls Try.prog 6 #[.slice A n c] w fun e w' => ∃ b er A' c', Dec l b er ∧ e = .returned (.tuple #[.agg (Bat.cells b A' c'), .int .i64 er]) ∧ b.L.length ≤ c' ∧ c' ≤ maxLen ∧ Rcs w' w'.heap.size A' b.L.length b.L ∧ Below w.heap.size w w' := by
  by_cases h : ∃ b, BatAt l b
  · obtain ⟨b, hb⟩ := h
    refine (decode_ok b A n c B l w hbs hn hB hb).mono ?_
    rintro e w' ⟨A', c', rfl, h1, h2, h3, h4⟩
    exact ⟨b, 0, A', c', .inl ⟨hb, rfl⟩, rfl, h1, h2, h3, h4⟩
  · have hno : ∀ b, ¬ BatAt l b := fun b hb => h ⟨b, hb⟩
    refine (decode_none A n c B l w hbs hn hB hno).mono ?_
    rintro e w' ⟨rfl, h4⟩
    exact ⟨⟨0, 0, 0, 0, 0, 0, []⟩, 6, none, 0, .inr ⟨hno, rfl, rfl⟩, rfl, by simp, by simp [maxLen], Rcs.nil_, h4⟩
end Go.Proofs.Ytniopekkfnkipaa
namespace Go.Proofs.Ytniopekkfnkipaa
open Go.RowKit
set_option linter.unusedVariables false
set_option linter.unusedSimpArgs false
set_option maxRecDepth 100000 in
set_option maxHeartbeats 16000000 in
theorem rdecode_any (A : Option Addr) (c B : Nat) (l : List UInt8) (w : World) (hbs : Bs w B A l.length l) (hc : l.length ≤ c) (hm : c ≤ maxLen) (hs : l.length ≤ 1099511627776) (hB : B ≤ w.heap.size) :
    Calls Try.prog 8 #[.slice A l.length c] w fun e w' => ∃ b er A' c', Dec l b er ∧ e = .returned (.tuple #[.agg (Bat.cells b A' c'), .int .i64 er]) ∧ b.L.length ≤ c' ∧ c' ≤ maxLen ∧ Rcs w' w'.heap.size A' b.L.length b.L ∧ Below w.heap.size w w' := by
  obtain ⟨X, hX⟩ : ∃ X : Ending → World → Prop, (fun (e : Ending) (w' : World) => ∃ b er A' c', Dec l b er ∧ e = .returned (.tuple #[.agg (Bat.cells b A' c'), .int .i64 er]) ∧ b.L.length ≤ c' ∧ c' ≤ maxLen ∧ Rcs w' w'.heap.size A' b.L.length b.L ∧ Below w.heap.size w w') = X := ⟨_, rfl⟩
  have HX1 : Hid (∀ (b : Bat) A' c' w', BatAt l b → b.L.length ≤ c' → c' ≤ maxLen → Rcs w' w'.heap.size A' b.L.length b.L → Below w.heap.size w w' → X (.returned (.tuple #[.agg (Bat.cells b A' c'), .int .i64 0])) w') := fun b A' c' w' a1 a2 a3 a4 a5 => by
    rw [← hX]; exact ⟨b, 0, A', c', .inl ⟨a1, rfl⟩, rfl, a2, a3, a4, a5⟩
  have HX0 : Hid (∀ w', (∀ b, ¬ BatAt l b) → Below w.heap.size w w' → X (.returned (.tuple #[.agg #[.int .i64 0, .int .i64 0, .int .i64 0, .int .i64 0, .int .i64 0, .int .i64 0, .slice none 0 0], .int .i64 6])) w') := fun w' a1 a5 => by
    rw [← hX]; exact ⟨⟨0, 0, 0, 0, 0, 0, []⟩, 6, none, 0, .inr ⟨a1, rfl, rfl⟩, rfl, by simp, by simp [maxLen], Rcs.nil_, a5⟩
  rw [hX]
  clear hX
  obtain ⟨b0, q1, r1, hY1⟩ := trip (byteR l 0 0)
  obtain ⟨kind, q2, r2, hY2⟩ := trip (byteR l q1 r1)
  obtain ⟨u1, q3, r3, hU1⟩ := trip (uR l q2 r2)
  obtain ⟨u2, q4, r4, hU2⟩ := trip (uR l q3 r3)
  have HCA : Hid (∀ b, BatAt l b → (kind : Int) = b.kind ∧ sV u1 = b.base ∧ sV u2 = b.pid ∧ r4 = 0 ∧ HM l b q4) := fun b hb => head_comp hb hY1 hY2 hU1 hU2
  have HBY : Hid (∀ wx, Below w.heap.size w wx → Bs wx wx.heap.size A l.length l) := fun wx h => (hbs.below (h.mono hB)).wider (Nat.le_trans hB h.size)
  have hb0 := heap_alloc_new w (.cells #[.int .i64 0, .int .i64 0, .int .i64 0, .int .i64 0, .int .i64 0, .int .i64 0, .slice none 0 0] 24)
  have HRQ : Hid (∀ wx, Below w.heap.size w wx → w.heap.size < wx.heap.size → Rq (wx.alloc (.cells #[.slice A l.length c, .int .i64 0, .int .i64 0] 52)) wx.heap.size A c l 0 0) := fun wx h hz => by
    have hal := (Below.refl wx.heap.size wx).alloc (Nat.le_refl _) (.cells #[.slice A l.length c, .int .i64 0, .int .i64 0] 52)
    exact ⟨heap_alloc_new wx _, hc, hm, (hbs.below (h.mono hB)).below (hal.mono (Nat.le_trans hB h.size)) |>.wider (Nat.le_trans hB h.size), Nat.zero_le _, hs⟩
  go_enter Try.func8, Try.ntmps8
  go_wp2_with fail
  have hR1 := HRQ.out _ ((Below.refl w.heap.size w).alloc (Nat.le_refl _) (.cells #[.int .i64 0, .int .i64 0, .int .i64 0, .int .i64 0, .int .i64 0, .int .i64 0, .slice none 0 0] 24)) (by simp)
  rw [show (w.alloc (.cells #[.int .i64 0, .int .i64 0, .int .i64 0, .int .i64 0, .int .i64 0, .int .i64 0, .slice none 0 0] 24)).heap.size = w.heap.size + 1 from by simp] at hR1
  have hB1 := ((Below.refl w.heap.size w).alloc (Nat.le_refl _) (.cells #[.int .i64 0, .int .i64 0, .int .i64 0, .int .i64 0, .int .i64 0, .int .i64 0, .slice none 0 0] 24)).alloc (by simp) (.cells #[.slice A l.length c, .int .i64 0, .int .i64 0] 52)
  have hres : ((w.alloc (.cells #[.int .i64 0, .int .i64 0, .int .i64 0, .int .i64 0, .int .i64 0, .int .i64 0, .slice none 0 0] 24)).alloc (.cells #[.slice A l.length c, .int .i64 0, .int .i64 0] 52)).heap[w.heap.size]? = some (.cells #[.int .i64 0, .int .i64 0, .int .i64 0, .int .i64 0, .int .i64 0, .int .i64 0, .slice none 0 0] 24 (0, 0)) := (((Below.refl _ _).alloc (Nat.le_refl _) _).block w.heap.size (by simp)).trans hb0
  have HI := Lib.hid (qY_any _ c 0 0 A l _ hR1)
  rw [hY1] at HI
  generalize (w.alloc (.cells #[.int .i64 0, .int .i64 0, .int .i64 0, .int .i64 0, .int .i64 0, .int .i64 0, .slice none 0 0] 24)).alloc (.cells #[.slice A l.length c, .int .i64 0, .int .i64 0] 52) = W1 at *
  obtain ⟨g, hgg⟩ : ∃ g, w.heap.size + 1 = g := ⟨_, rfl⟩
  rw [hgg] at HI hR1 ⊢
  have hg0 : w.heap.size < g := by omega
  have hg1 := hR1.lt
  clear hR1 hb0
  refine HI.out.mono ?_
  rintro e w1 ⟨rfl, hr, hg⟩
  have hB2 := hB1.trans (below_of_grown hg (by omega) hB1.size)
  have hres2 := (hg.block w.heap.size (by omega) (fun e => by injection e with e; omega)).trans hres
  have HI := Lib.hid (qY_any _ c q1 r1 A l _ hr)
  rw [hY2] at HI
  have hg1' := hr.lt
  have HB2 := Lib.hid hB2
  have HRES := Lib.hid hres2
  clear hB1 hres hr hg hB2 hres2 hgg
  go_wp2_with fail
  refine HI.out.mono ?_
  rintro e w2 ⟨rfl, hr, hg⟩
  have hB3 := HB2.out.trans (below_of_grown hg (by omega) HB2.out.size)
  have hres3 := (hg.block w.heap.size (by omega) (fun e => by injection e with e; omega)).trans HRES.out
  have hg2 := hr.lt
  have hal := (Below.refl w2.heap.size w2).alloc (Nat.le_refl _) (.cells #[.int .i64 0, .int .i64 0, .int .i64 0, .int .i64 0, .int .i64 (kind : Int), .int .i64 0, .slice none 0 0] 24)
  have hD : RDs w (w2.alloc (.cells #[.int .i64 0, .int .i64 0, .int .i64 0, .int .i64 0, .int .i64 (kind : Int), .int .i64 0, .slice none 0 0] 24)) g w2.heap.size A c l (.int .i64 0) (.int .i64 0) (.int .i64 0) (.int .i64 0) (.int .i64 (kind : Int)) (.int .i64 0) (.slice none 0 0) q2 r2 := ⟨heap_alloc_new w2 _, hr.alloc _, hB3.alloc hB3.size _, (hal.block w.heap.size (by omega)).trans hres3, hg0, hg2⟩
  have HD := Lib.hid hD
  have EU1 := Lib.hid hU1
  have EU2 := Lib.hid hU2
  clear hr hg hB3 hres3 HI HB2 HRES hal hD hU1 hU2 hY1 hY2 HRQ hg1 hg1' hg2
  have HS := Lib.hid (small_any HD.out.rq)
  rw [EU1.out] at HS
  go_wp2_with fail
  generalize w2.alloc (.cells #[.int .i64 0, .int .i64 0, .int .i64 0, .int .i64 0, .int .i64 (kind : Int), .int .i64 0, .slice none 0 0] 24) = w3 at *
  generalize w2.heap.size = bx at *
  refine HS.out.mono ?_
  rintro e w4 ⟨rfl, hr, hg⟩
  have hD := HD.out.call hr hg
  have y := hD.c0
  have f := hD.f0
  have HD2 := Lib.hid (hD.put0 (.int .i64 (sV u1)))
  clear HD HS hr hg hD
  have HD := HD2
  clear HD2
  have y0s := HD.out.c0
  have HS := Lib.hid (small_any HD.out.rq)
  rw [EU2.out] at HS
  go_wp2_with fail
  generalize w4.setCell ⟨bx, 0, none⟩ (.int .i64 (sV u1)) = w4s at *
  clear y f y0s
  refine HS.out.mono ?_
  rintro e w5 ⟨rfl, hr, hg⟩
  have hD := HD.out.call hr hg
  have y := hD.c1
  have f := hD.f1
  have HD2 := Lib.hid (hD.put1 (.int .i64 (sV u2)))
  clear HD HS hr hg hD
  have HD := HD2
  clear HD2
  have hp1 := HD.out.c1
  have hpi := sV_in u2
  obtain ⟨pid, hpid⟩ : ∃ pid, sV u2 = pid := ⟨_, rfl⟩
  obtain ⟨base, hbase⟩ : ∃ base, sV u1 = base := ⟨_, rfl⟩
  rw [hpid] at HCA HD hp1 hpi ⊢
  rw [hbase] at HCA HD
  clear hpid hbase
  have HMK : Hid (∀ (W : World) (b p e s t : Int) (A : Option Addr) (n c : Nat), Calls Try.prog 13 #[.agg #[.int .i64 b, .int .i64 p, .int .i64 e, .int .i64 s, .int .i64 (kind : Int), .int .i64 t, .slice A n c]] W fun e w' => e = .returned (.bool (((kind : Int) == 2) || ((kind : Int) == 3))) ∧ Below W.heap.size W w') := fun W b p e s t A n c => by
    have := rmark_any ⟨b, p, e, s, kind, t, List.replicate n default⟩ A c W
    unfold Bat.cells markB at this
    simp only [List.length_replicate] at this
    exact this
  obtain ⟨mk, hmk⟩ : ∃ mk, (((kind : Int) == 2) || ((kind : Int) == 3)) = mk := ⟨_, rfl⟩
  rw [hmk] at HMK
  have HMB : Hid (∀ b : Bat, (kind : Int) = b.kind → markB b = mk) := fun b h => by rw [← hmk, h]; rfl
  clear hmk
  have HEN : Hid (∀ (e s t : Int) (L : List Rec) (W : World) (A' : Option Addr) (c' : Nat), L.length ≤ maxLen → Rcs W W.heap.size A' L.length L → Calls Try.prog 4 #[.agg #[.int .i64 base, .int .i64 pid, .int .i64 e, .int .i64 s, .int .i64 (kind : Int), .int .i64 t, .slice A' L.length c']] W fun e' w' => ∃ Ao co, e' = .returned (.tuple #[.slice Ao (if validE (⟨base, pid, e, s, kind, t, L⟩ : Bat) = 0 then encB (⟨base, pid, e, s, kind, t, L⟩ : Bat) else []).length co, .int .i64 (validE (⟨base, pid, e, s, kind, t, L⟩ : Bat))]) ∧ (if validE (⟨base, pid, e, s, kind, t, L⟩ : Bat) = 0 then encB (⟨base, pid, e, s, kind, t, L⟩ : Bat) else []).length ≤ co ∧ co ≤ maxLen ∧ Bs w' w'.heap.size Ao (if validE (⟨base, pid, e, s, kind, t, L⟩ : Bat) = 0 then encB (⟨base, pid, e, s, kind, t, L⟩ : Bat) else []).length (if validE (⟨base, pid, e, s, kind, t, L⟩ : Bat) = 0 then encB (⟨base, pid, e, s, kind, t, L⟩ : Bat) else []) ∧ Below W.heap.size W w') := fun e s t L W A' c' hl hL => rencode_any ⟨base, pid, e, s, kind, t, L⟩ A' c' W.heap.size W hL (Nat.le_refl _) hl
  by_cases hp : 0 < pid
  · have dp : decide (0 < pid) = true := decide_eq_true hp
    obtain ⟨u3, q5, r5, hU3⟩ := trip (uR l q4 r4)
    have EU3 := Lib.hid hU3
    have HS := Lib.hid (small_any HD.out.rq)
    rw [EU3.out] at HS
    go_wp2_with fail
    generalize w5.setCell ⟨bx, 1, none⟩ (.int .i64 pid) = w5s at *
    clear y f hp1
    refine HS.out.mono ?_
    rintro e w6 ⟨rfl, hr, hg⟩
    have hD := HD.out.call hr hg
    have y := hD.c2
    have f := hD.f2
    have HD2 := Lib.hid (hD.put2 (.int .i64 (sV u3)))
    clear HD HS hr hg hD
    have HD := HD2
    clear HD2
    have hp1 := HD.out.c1
    have z0 := HD.out.c0
    have z2 := HD.out.c2
    have z3 := HD.out.c3
    have z4 := HD.out.c4
    have z5 := HD.out.c5
    have z6 := HD.out.c6
    go_wp2_with fail
    refine (HMK.out _ _ _ _ _ _ _ _ _).mono ?_
    rintro e wk ⟨rfl, hbm⟩
    have HD2 := Lib.hid (HD.out.below hbm)
    clear HD hbm y f hp1 z0 z2 z3 z4 z5 z6
    have HD := HD2
    clear HD2
    cases mk with
    | true =>
      obtain ⟨u5, q7, r7, hU5⟩ := trip (uR l q5 r5)
      have EU5 := Lib.hid hU5
      have HS := Lib.hid (small_any HD.out.rq)
      rw [EU5.out] at HS
      go_wp2_with fail

      refine HS.out.mono ?_
      rintro e w7 ⟨rfl, hr, hg⟩
      have hD := HD.out.call hr hg
      have y := hD.c5
      have f := hD.f5
      have HD2 := Lib.hid (hD.put5 (.int .i64 (sV u5)))
      clear HD HS hr hg hD
      have HD := HD2
      clear HD2
      have HCT : Hid (∀ b, BatAt l b → base = b.base ∧ pid = b.pid ∧ sV u3 = b.epoch ∧ 0 = b.seq ∧ (kind : Int) = b.kind ∧ sV u5 = b.time ∧ r7 = 0 ∧ HL l b q7) := fun b hb => by
        obtain ⟨t1, t2, t3, t4, p5, p6, q, k1, k2, k3, k4⟩ := HCA.out b hb
        have hF := hb.fine
        have hmf := HMB.out b t1
        obtain ⟨m1, m2, m3⟩ := k2 (by omega)
        subst t4
        obtain ⟨o1, o2, o3⟩ := small_of m1 hF.e1 (by have := hF.e2; omega) EU3.out
        subst o2 o3
        obtain ⟨m4, m5⟩ := m2 hmf
        subst m5
        obtain ⟨n1, n2, n3⟩ := small_of k3 hF.t1 hF.t2 EU5.out
        subst n2
        exact ⟨t2, t3, o1, m4.symm, t1, n1, n3, k4⟩
      clear HCA EU5 EU3
      have e2 := HD.out.rq.c2
      have z0 := HD.out.c0
      have z1 := HD.out.c1
      have z2 := HD.out.c2
      have z3 := HD.out.c3
      have z4 := HD.out.c4
      have z5 := HD.out.c5
      have z6 := HD.out.c6
      have hti := sV_in u5
      by_cases hr7 : r7 = 0
      · have dr : ((r7 : Int) == 0) = true := by rw [hr7]; rfl
        by_cases ht : 0 ≤ sV u5
        · have dt : decide (0 ≤ sV u5) = true := decide_eq_true ht
          go_wp2_with fail
          refine (HMK.out _ _ _ _ _ _ _ _ _).mono ?_
          rintro e wm ⟨rfl, hbm⟩
          have HD2 := Lib.hid (HD.out.below hbm)
          clear HD hbm z0 z1 z2 z3 z4 z5 z6 e2
          have HD := HD2
          clear HD2
          · have HBQ : Hid (∀ b, BatAt l b → b = ⟨base, pid, sV u3, 0, kind, sV u5, []⟩) := fun b hb => by
              obtain ⟨t1, t2, t3, t4, t5, t6, t7, t8⟩ := HCT.out b hb
              obtain ⟨bb, bp, be, bs, bk, bt, bL⟩ := b
              simp only at t1 t2 t3 t4 t5 t6
              have := t8.1 (HMB.out _ t5)
              simp only at this
              subst t1 t2 t3 t4 t5 t6
              rw [this]
            have z0 := HD.out.c0
            have z1 := HD.out.c1
            have z2 := HD.out.c2
            have z3 := HD.out.c3
            have z4 := HD.out.c4
            have z5 := HD.out.c5
            have z6 := HD.out.c6
            have HLL : Hid (([] : List Rec).length ≤ maxLen) := Nat.zero_le _
            have HLC : Hid (([] : List Rec).length ≤ 0) := Nat.le_refl _
            have HCM : Hid (0 ≤ maxLen) := Nat.zero_le _
            have HFA : Hid (∀ p : Addr, (none : Option Addr) = some p → w.heap.size < p.block) := fun p h => by cases h
            go_wp2_with fail
            have HRCW : Hid (Rcs wm (World.heap wm).size none ([] : List Rec).length []) := Rcs.nil_
            refine (HEN.out (sV u3) (0) (sV u5) ([] : List Rec) _ none 0 (HLL.out) HRCW.out).mono ?_
            rintro e wE ⟨Ao, co, rfl, ho1, ho2, hbo, hbE⟩
            have HDE := Lib.hid (HD.out.below hbE)
            have HRE : Hid (Rcs wE wE.heap.size none (List.length ([] : List Rec)) ([] : List Rec)) := (HRCW.out.below hbE).wider hbE.size
            clear z0 z1 z2 z3 z4 z5 z6
            have HFI := Lib.hid (fine_iff (⟨base, pid, sV u3, 0, kind, sV u5, ([] : List Rec)⟩ : Bat))
            obtain ⟨V, hV⟩ : ∃ V, validE (⟨base, pid, sV u3, 0, kind, sV u5, ([] : List Rec)⟩ : Bat) = V := ⟨_, rfl⟩
            rw [hV] at hbo ho1 HFI ⊢
            obtain ⟨eb, heb⟩ : ∃ eb, (if V = 0 then encB (⟨base, pid, sV u3, 0, kind, sV u5, ([] : List Rec)⟩ : Bat) else []) = eb := ⟨_, rfl⟩
            have HEB := Lib.hid heb
            rw [heb] at hbo ho1 ⊢
            have s1 := hbo.str (P := Try.prog) Try.underlying25 Try.underlying5 Try.underlying9 co
            have s2 := (HBY.out wE HDE.out.bel).str (P := Try.prog) Try.underlying25 Try.underlying5 Try.underlying9 c
            have HNOT : Hid (¬ (V = 0 ∧ eb = l) → ∀ b, ¬ BatAt l b) := fun hn b hb => by
              have he := HBQ.out b hb
              have hF := hb.fine
              rw [he] at hF
              have h0 := HFI.out.2 hF
              refine hn ⟨h0, ?_⟩
              rw [← HEB.out, if_pos h0, ← he]
              exact (bat_strict hb).symm
            have HYES : Hid (V = 0 → eb = l → BatAt l (⟨base, pid, sV u3, 0, kind, sV u5, ([] : List Rec)⟩ : Bat)) := fun h0 h1 => by
              have hF := HFI.out.1 h0
              have h2 := HEB.out
              rw [if_pos h0] at h2
              rw [← h1, ← h2]
              exact batAt_enc _ hF
            clear hbo ho1 hbE hV heb HD HRCW
            have d0 : wE.cell? ⟨w.heap.size, 0, none⟩ = some (.int .i64 0) := cell_of_row _ _ 0 _ _ _ HDE.out.res
            have h0 : wE.frozen? ⟨w.heap.size, 0, none⟩ = false := frozen_of_row _ _ 0 _ _ HDE.out.res
            have d1 : wE.cell? ⟨w.heap.size, 1, none⟩ = some (.int .i64 0) := cell_of_row _ _ 1 _ _ _ HDE.out.res
            have h1 : wE.frozen? ⟨w.heap.size, 1, none⟩ = false := frozen_of_row _ _ 1 _ _ HDE.out.res
            have d2 : wE.cell? ⟨w.heap.size, 2, none⟩ = some (.int .i64 0) := cell_of_row _ _ 2 _ _ _ HDE.out.res
            have h2 : wE.frozen? ⟨w.heap.size, 2, none⟩ = false := frozen_of_row _ _ 2 _ _ HDE.out.res
            have d3 : wE.cell? ⟨w.heap.size, 3, none⟩ = some (.int .i64 0) := cell_of_row _ _ 3 _ _ _ HDE.out.res
            have h3 : wE.frozen? ⟨w.heap.size, 3, none⟩ = false := frozen_of_row _ _ 3 _ _ HDE.out.res
            have d4 : wE.cell? ⟨w.heap.size, 4, none⟩ = some (.int .i64 0) := cell_of_row _ _ 4 _ _ _ HDE.out.res
            have h4 : wE.frozen? ⟨w.heap.size, 4, none⟩ = false := frozen_of_row _ _ 4 _ _ HDE.out.res
            have d5 : wE.cell? ⟨w.heap.size, 5, none⟩ = some (.int .i64 0) := cell_of_row _ _ 5 _ _ _ HDE.out.res
            have h5 : wE.frozen? ⟨w.heap.size, 5, none⟩ = false := frozen_of_row _ _ 5 _ _ HDE.out.res
            have d6 : wE.cell? ⟨w.heap.size, 6, none⟩ = some (.slice none 0 0) := cell_of_row _ _ 6 _ _ _ HDE.out.res
            have h6 : wE.frozen? ⟨w.heap.size, 6, none⟩ = false := frozen_of_row _ _ 6 _ _ HDE.out.res
            by_cases hv : V = 0
            · by_cases hl : eb = l
              · have HY := Lib.hid (HYES.out hv hl)
                have hz1 : (V != 0) = false := by rw [hv]; rfl
                subst hl
                have hself : (eb == eb) = true := by simp
                have z0 := HDE.out.c0
                have z1 := HDE.out.c1
                have z2 := HDE.out.c2
                have z3 := HDE.out.c3
                have z4 := HDE.out.c4
                have z5 := HDE.out.c5
                have z6 := HDE.out.c6
                clear HNOT HYES HFI HEB
                go_wp2_with fail
                refine bodyPost_ret (v := .tuple #[.agg #[.int .i64 base, .int .i64 pid, .int .i64 (sV u3), .int .i64 (0), .int .i64 (kind : Int), .int .i64 (sV u5), .slice none (List.length ([] : List Rec)) 0], .int .i64 0]) (by simp [results, Try.results8, go_sem, d0, d1, d2, d3, d4, d5, d6]) rfl ?_
                refine HX1.out (⟨base, pid, sV u3, 0, kind, sV u5, ([] : List Rec)⟩ : Bat) none 0 _ HY.out HLC.out HCM.out ?_ ?_
                · refine Rcs.wider (B := wE.heap.size) ?_ (by simp)
                  refine ⟨HRE.out.len, HRE.out.lies.far_ fun p hp i => ?_, HRE.out.ok⟩
                  have hpb := HFA.out p hp
                  have hpi := add_block p i
                  have n0 : ¬ w.heap.size = (p.add i).block := by rw [hpi]; omega
                  simp only [World.cell?_setCell_far, ne_eq, n0, not_false_eq_true]
                · repeat refine Below.setCell ?_ (by simp) _
                  exact HDE.out.bel
              · have HN := Lib.hid (HNOT.out (fun q => hl q.2))
                have hz1 : (V != 0) = false := by rw [hv]; rfl
                have hne : (eb == l) = false := by rw [beq_eq_false_iff_ne]; exact hl
                clear HNOT HYES HFI HEB
                go_wp2_with fail
                refine bodyPost_ret (v := .tuple #[.agg #[.int .i64 0, .int .i64 0, .int .i64 0, .int .i64 0, .int .i64 0, .int .i64 0, .slice none 0 0], .int .i64 6]) (by simp [results, Try.results8, go_sem, d0, d1, d2, d3, d4, d5, d6]) rfl ?_
                refine HX0.out _ HN.out ?_
                repeat refine Below.setCell ?_ (by simp) _
                exact HDE.out.bel
            · have HN := Lib.hid (HNOT.out (fun q => hv q.1))
              have hz1 : (V != 0) = true := by rw [bne_iff_ne]; exact hv
              clear HNOT HYES HFI HEB s1 s2
              go_wp2_with fail
              refine bodyPost_ret (v := .tuple #[.agg #[.int .i64 0, .int .i64 0, .int .i64 0, .int .i64 0, .int .i64 0, .int .i64 0, .slice none 0 0], .int .i64 6]) (by simp [results, Try.results8, go_sem, d0, d1, d2, d3, d4, d5, d6]) rfl ?_
              refine HX0.out _ HN.out ?_
              repeat refine Below.setCell ?_ (by simp) _
              exact HDE.out.bel
        · have dt : decide (0 ≤ sV u5) = false := decide_eq_false ht
          have HBQ : Hid (∀ b, BatAt l b → b = ⟨base, pid, sV u3, 0, kind, sV u5, []⟩) := fun b hb => by
            obtain ⟨t1, t2, t3, t4, t5, t6, t7, t8⟩ := HCT.out b hb
            have := hb.fine.t1
            omega
          have HLL : Hid (([] : List Rec).length ≤ maxLen) := Nat.zero_le _
          have HLC : Hid (([] : List Rec).length ≤ 0) := Nat.le_refl _
          have HCM : Hid (0 ≤ maxLen) := Nat.zero_le _
          have HFA : Hid (∀ p : Addr, (none : Option Addr) = some p → w.heap.size < p.block) := fun p h => by cases h
          go_wp2_with fail
          have HRCW : Hid (Rcs (w7.setCell ⟨bx, 5, none⟩ (.int .i64 (sV u5))) (World.heap (w7.setCell ⟨bx, 5, none⟩ (.int .i64 (sV u5)))).size none ([] : List Rec).length []) := Rcs.nil_
          refine (HEN.out (sV u3) (0) (sV u5) ([] : List Rec) _ none 0 (HLL.out) HRCW.out).mono ?_
          rintro e wE ⟨Ao, co, rfl, ho1, ho2, hbo, hbE⟩
          have HDE := Lib.hid (HD.out.below hbE)
          have HRE : Hid (Rcs wE wE.heap.size none (List.length ([] : List Rec)) ([] : List Rec)) := (HRCW.out.below hbE).wider hbE.size
          clear z0 z1 z2 z3 z4 z5 z6
          have HFI := Lib.hid (fine_iff (⟨base, pid, sV u3, 0, kind, sV u5, ([] : List Rec)⟩ : Bat))
          obtain ⟨V, hV⟩ : ∃ V, validE (⟨base, pid, sV u3, 0, kind, sV u5, ([] : List Rec)⟩ : Bat) = V := ⟨_, rfl⟩
          rw [hV] at hbo ho1 HFI ⊢
          obtain ⟨eb, heb⟩ : ∃ eb, (if V = 0 then encB (⟨base, pid, sV u3, 0, kind, sV u5, ([] : List Rec)⟩ : Bat) else []) = eb := ⟨_, rfl⟩
          have HEB := Lib.hid heb
          rw [heb] at hbo ho1 ⊢
          have s1 := hbo.str (P := Try.prog) Try.underlying25 Try.underlying5 Try.underlying9 co
          have s2 := (HBY.out wE HDE.out.bel).str (P := Try.prog) Try.underlying25 Try.underlying5 Try.underlying9 c
          have HNOT : Hid (¬ (V = 0 ∧ eb = l) → ∀ b, ¬ BatAt l b) := fun hn b hb => by
            have he := HBQ.out b hb
            have hF := hb.fine
            rw [he] at hF
            have h0 := HFI.out.2 hF
            refine hn ⟨h0, ?_⟩
            rw [← HEB.out, if_pos h0, ← he]
            exact (bat_strict hb).symm
          have HYES : Hid (V = 0 → eb = l → BatAt l (⟨base, pid, sV u3, 0, kind, sV u5, ([] : List Rec)⟩ : Bat)) := fun h0 h1 => by
            have hF := HFI.out.1 h0
            have h2 := HEB.out
            rw [if_pos h0] at h2
            rw [← h1, ← h2]
            exact batAt_enc _ hF
          clear hbo ho1 hbE hV heb HD HRCW
          have d0 : wE.cell? ⟨w.heap.size, 0, none⟩ = some (.int .i64 0) := cell_of_row _ _ 0 _ _ _ HDE.out.res
          have h0 : wE.frozen? ⟨w.heap.size, 0, none⟩ = false := frozen_of_row _ _ 0 _ _ HDE.out.res
          have d1 : wE.cell? ⟨w.heap.size, 1, none⟩ = some (.int .i64 0) := cell_of_row _ _ 1 _ _ _ HDE.out.res
          have h1 : wE.frozen? ⟨w.heap.size, 1, none⟩ = false := frozen_of_row _ _ 1 _ _ HDE.out.res
          have d2 : wE.cell? ⟨w.heap.size, 2, none⟩ = some (.int .i64 0) := cell_of_row _ _ 2 _ _ _ HDE.out.res
          have h2 : wE.frozen? ⟨w.heap.size, 2, none⟩ = false := frozen_of_row _ _ 2 _ _ HDE.out.res
          have d3 : wE.cell? ⟨w.heap.size, 3, none⟩ = some (.int .i64 0) := cell_of_row _ _ 3 _ _ _ HDE.out.res
          have h3 : wE.frozen? ⟨w.heap.size, 3, none⟩ = false := frozen_of_row _ _ 3 _ _ HDE.out.res
          have d4 : wE.cell? ⟨w.heap.size, 4, none⟩ = some (.int .i64 0) := cell_of_row _ _ 4 _ _ _ HDE.out.res
          have h4 : wE.frozen? ⟨w.heap.size, 4, none⟩ = false := frozen_of_row _ _ 4 _ _ HDE.out.res
          have d5 : wE.cell? ⟨w.heap.size, 5, none⟩ = some (.int .i64 0) := cell_of_row _ _ 5 _ _ _ HDE.out.res
          have h5 : wE.frozen? ⟨w.heap.size, 5, none⟩ = false := frozen_of_row _ _ 5 _ _ HDE.out.res
          have d6 : wE.cell? ⟨w.heap.size, 6, none⟩ = some (.slice none 0 0) := cell_of_row _ _ 6 _ _ _ HDE.out.res
          have h6 : wE.frozen? ⟨w.heap.size, 6, none⟩ = false := frozen_of_row _ _ 6 _ _ HDE.out.res
          by_cases hv : V = 0
          · by_cases hl : eb = l
            · have HY := Lib.hid (HYES.out hv hl)
              have hz1 : (V != 0) = false := by rw [hv]; rfl
              subst hl
              have hself : (eb == eb) = true := by simp
              have z0 := HDE.out.c0
              have z1 := HDE.out.c1
              have z2 := HDE.out.c2
              have z3 := HDE.out.c3
              have z4 := HDE.out.c4
              have z5 := HDE.out.c5
              have z6 := HDE.out.c6
              clear HNOT HYES HFI HEB
              go_wp2_with fail
              refine bodyPost_ret (v := .tuple #[.agg #[.int .i64 base, .int .i64 pid, .int .i64 (sV u3), .int .i64 (0), .int .i64 (kind : Int), .int .i64 (sV u5), .slice none (List.length ([] : List Rec)) 0], .int .i64 0]) (by simp [results, Try.results8, go_sem, d0, d1, d2, d3, d4, d5, d6]) rfl ?_
              refine HX1.out (⟨base, pid, sV u3, 0, kind, sV u5, ([] : List Rec)⟩ : Bat) none 0 _ HY.out HLC.out HCM.out ?_ ?_
              · refine Rcs.wider (B := wE.heap.size) ?_ (by simp)
                refine ⟨HRE.out.len, HRE.out.lies.far_ fun p hp i => ?_, HRE.out.ok⟩
                have hpb := HFA.out p hp
                have hpi := add_block p i
                have n0 : ¬ w.heap.size = (p.add i).block := by rw [hpi]; omega
                simp only [World.cell?_setCell_far, ne_eq, n0, not_false_eq_true]
              · repeat refine Below.setCell ?_ (by simp) _
                exact HDE.out.bel
            · have HN := Lib.hid (HNOT.out (fun q => hl q.2))
              have hz1 : (V != 0) = false := by rw [hv]; rfl
              have hne : (eb == l) = false := by rw [beq_eq_false_iff_ne]; exact hl
              clear HNOT HYES HFI HEB
              go_wp2_with fail
              refine bodyPost_ret (v := .tuple #[.agg #[.int .i64 0, .int .i64 0, .int .i64 0, .int .i64 0, .int .i64 0, .int .i64 0, .slice none 0 0], .int .i64 6]) (by simp [results, Try.results8, go_sem, d0, d1, d2, d3, d4, d5, d6]) rfl ?_
              refine HX0.out _ HN.out ?_
              repeat refine Below.setCell ?_ (by simp) _
              exact HDE.out.bel
          · have HN := Lib.hid (HNOT.out (fun q => hv q.1))
            have hz1 : (V != 0) = true := by rw [bne_iff_ne]; exact hv
            clear HNOT HYES HFI HEB s1 s2
            go_wp2_with fail
            refine bodyPost_ret (v := .tuple #[.agg #[.int .i64 0, .int .i64 0, .int .i64 0, .int .i64 0, .int .i64 0, .int .i64 0, .slice none 0 0], .int .i64 6]) (by simp [results, Try.results8, go_sem, d0, d1, d2, d3, d4, d5, d6]) rfl ?_
            refine HX0.out _ HN.out ?_
            repeat refine Below.setCell ?_ (by simp) _
            exact HDE.out.bel
      · have dr : ((r7 : Int) == 0) = false := by rw [beq_eq_false_iff_ne]; omega
        have HBQ : Hid (∀ b, BatAt l b → b = ⟨base, pid, sV u3, 0, kind, sV u5, []⟩) := fun b hb => by
          obtain ⟨t1, t2, t3, t4, t5, t6, t7, t8⟩ := HCT.out b hb
          exact absurd t7 hr7
        have HLL : Hid (([] : List Rec).length ≤ maxLen) := Nat.zero_le _
        have HLC : Hid (([] : List Rec).length ≤ 0) := Nat.le_refl _
        have HCM : Hid (0 ≤ maxLen) := Nat.zero_le _
        have HFA : Hid (∀ p : Addr, (none : Option Addr) = some p → w.heap.size < p.block) := fun p h => by cases h
        go_wp2_with fail
        have HRCW : Hid (Rcs (w7.setCell ⟨bx, 5, none⟩ (.int .i64 (sV u5))) (World.heap (w7.setCell ⟨bx, 5, none⟩ (.int .i64 (sV u5)))).size none ([] : List Rec).length []) := Rcs.nil_
        refine (HEN.out (sV u3) (0) (sV u5) ([] : List Rec) _ none 0 (HLL.out) HRCW.out).mono ?_
        rintro e wE ⟨Ao, co, rfl, ho1, ho2, hbo, hbE⟩
        have HDE := Lib.hid (HD.out.below hbE)
        have HRE : Hid (Rcs wE wE.heap.size none (List.length ([] : List Rec)) ([] : List Rec)) := (HRCW.out.below hbE).wider hbE.size
        clear z0 z1 z2 z3 z4 z5 z6
        have HFI := Lib.hid (fine_iff (⟨base, pid, sV u3, 0, kind, sV u5, ([] : List Rec)⟩ : Bat))
        obtain ⟨V, hV⟩ : ∃ V, validE (⟨base, pid, sV u3, 0, kind, sV u5, ([] : List Rec)⟩ : Bat) = V := ⟨_, rfl⟩
        rw [hV] at hbo ho1 HFI ⊢
        obtain ⟨eb, heb⟩ : ∃ eb, (if V = 0 then encB (⟨base, pid, sV u3, 0, kind, sV u5, ([] : List Rec)⟩ : Bat) else []) = eb := ⟨_, rfl⟩
        have HEB := Lib.hid heb
        rw [heb] at hbo ho1 ⊢
        have s1 := hbo.str (P := Try.prog) Try.underlying25 Try.underlying5 Try.underlying9 co
        have s2 := (HBY.out wE HDE.out.bel).str (P := Try.prog) Try.underlying25 Try.underlying5 Try.underlying9 c
        have HNOT : Hid (¬ (V = 0 ∧ eb = l) → ∀ b, ¬ BatAt l b) := fun hn b hb => by
          have he := HBQ.out b hb
          have hF := hb.fine
          rw [he] at hF
          have h0 := HFI.out.2 hF
          refine hn ⟨h0, ?_⟩
          rw [← HEB.out, if_pos h0, ← he]
          exact (bat_strict hb).symm
        have HYES : Hid (V = 0 → eb = l → BatAt l (⟨base, pid, sV u3, 0, kind, sV u5, ([] : List Rec)⟩ : Bat)) := fun h0 h1 => by
          have hF := HFI.out.1 h0
          have h2 := HEB.out
          rw [if_pos h0] at h2
          rw [← h1, ← h2]
          exact batAt_enc _ hF
        clear hbo ho1 hbE hV heb HD HRCW
        have d0 : wE.cell? ⟨w.heap.size, 0, none⟩ = some (.int .i64 0) := cell_of_row _ _ 0 _ _ _ HDE.out.res
        have h0 : wE.frozen? ⟨w.heap.size, 0, none⟩ = false := frozen_of_row _ _ 0 _ _ HDE.out.res
        have d1 : wE.cell? ⟨w.heap.size, 1, none⟩ = some (.int .i64 0) := cell_of_row _ _ 1 _ _ _ HDE.out.res
        have h1 : wE.frozen? ⟨w.heap.size, 1, none⟩ = false := frozen_of_row _ _ 1 _ _ HDE.out.res
        have d2 : wE.cell? ⟨w.heap.size, 2, none⟩ = some (.int .i64 0) := cell_of_row _ _ 2 _ _ _ HDE.out.res
        have h2 : wE.frozen? ⟨w.heap.size, 2, none⟩ = false := frozen_of_row _ _ 2 _ _ HDE.out.res
        have d3 : wE.cell? ⟨w.heap.size, 3, none⟩ = some (.int .i64 0) := cell_of_row _ _ 3 _ _ _ HDE.out.res
        have h3 : wE.frozen? ⟨w.heap.size, 3, none⟩ = false := frozen_of_row _ _ 3 _ _ HDE.out.res
        have d4 : wE.cell? ⟨w.heap.size, 4, none⟩ = some (.int .i64 0) := cell_of_row _ _ 4 _ _ _ HDE.out.res
        have h4 : wE.frozen? ⟨w.heap.size, 4, none⟩ = false := frozen_of_row _ _ 4 _ _ HDE.out.res
        have d5 : wE.cell? ⟨w.heap.size, 5, none⟩ = some (.int .i64 0) := cell_of_row _ _ 5 _ _ _ HDE.out.res
        have h5 : wE.frozen? ⟨w.heap.size, 5, none⟩ = false := frozen_of_row _ _ 5 _ _ HDE.out.res
        have d6 : wE.cell? ⟨w.heap.size, 6, none⟩ = some (.slice none 0 0) := cell_of_row _ _ 6 _ _ _ HDE.out.res
        have h6 : wE.frozen? ⟨w.heap.size, 6, none⟩ = false := frozen_of_row _ _ 6 _ _ HDE.out.res
        by_cases hv : V = 0
        · by_cases hl : eb = l
          · have HY := Lib.hid (HYES.out hv hl)
            have hz1 : (V != 0) = false := by rw [hv]; rfl
            subst hl
            have hself : (eb == eb) = true := by simp
            have z0 := HDE.out.c0
            have z1 := HDE.out.c1
            have z2 := HDE.out.c2
            have z3 := HDE.out.c3
            have z4 := HDE.out.c4
            have z5 := HDE.out.c5
            have z6 := HDE.out.c6
            clear HNOT HYES HFI HEB
            go_wp2_with fail
            refine bodyPost_ret (v := .tuple #[.agg #[.int .i64 base, .int .i64 pid, .int .i64 (sV u3), .int .i64 (0), .int .i64 (kind : Int), .int .i64 (sV u5), .slice none (List.length ([] : List Rec)) 0], .int .i64 0]) (by simp [results, Try.results8, go_sem, d0, d1, d2, d3, d4, d5, d6]) rfl ?_
            refine HX1.out (⟨base, pid, sV u3, 0, kind, sV u5, ([] : List Rec)⟩ : Bat) none 0 _ HY.out HLC.out HCM.out ?_ ?_
            · refine Rcs.wider (B := wE.heap.size) ?_ (by simp)
              refine ⟨HRE.out.len, HRE.out.lies.far_ fun p hp i => ?_, HRE.out.ok⟩
              have hpb := HFA.out p hp
              have hpi := add_block p i
              have n0 : ¬ w.heap.size = (p.add i).block := by rw [hpi]; omega
              simp only [World.cell?_setCell_far, ne_eq, n0, not_false_eq_true]
            · repeat refine Below.setCell ?_ (by simp) _
              exact HDE.out.bel
          · have HN := Lib.hid (HNOT.out (fun q => hl q.2))
            have hz1 : (V != 0) = false := by rw [hv]; rfl
            have hne : (eb == l) = false := by rw [beq_eq_false_iff_ne]; exact hl
            clear HNOT HYES HFI HEB
            go_wp2_with fail
            refine bodyPost_ret (v := .tuple #[.agg #[.int .i64 0, .int .i64 0, .int .i64 0, .int .i64 0, .int .i64 0, .int .i64 0, .slice none 0 0], .int .i64 6]) (by simp [results, Try.results8, go_sem, d0, d1, d2, d3, d4, d5, d6]) rfl ?_
            refine HX0.out _ HN.out ?_
            repeat refine Below.setCell ?_ (by simp) _
            exact HDE.out.bel
        · have HN := Lib.hid (HNOT.out (fun q => hv q.1))
          have hz1 : (V != 0) = true := by rw [bne_iff_ne]; exact hv
          clear HNOT HYES HFI HEB s1 s2
          go_wp2_with fail
          refine bodyPost_ret (v := .tuple #[.agg #[.int .i64 0, .int .i64 0, .int .i64 0, .int .i64 0, .int .i64 0, .int .i64 0, .slice none 0 0], .int .i64 6]) (by simp [results, Try.results8, go_sem, d0, d1, d2, d3, d4, d5, d6]) rfl ?_
          refine HX0.out _ HN.out ?_
          repeat refine Below.setCell ?_ (by simp) _
          exact HDE.out.bel
    | false =>
      obtain ⟨u4, q6, r6, hU4⟩ := trip (uR l q5 r5)
      have EU4 := Lib.hid hU4
      obtain ⟨u5, q7, r7, hU5⟩ := trip (uR l q6 r6)
      have EU5 := Lib.hid hU5
      have HS := Lib.hid (small_any HD.out.rq)
      rw [EU4.out] at HS
      go_wp2_with fail

      refine HS.out.mono ?_
      rintro e w7 ⟨rfl, hr, hg⟩
      have hD := HD.out.call hr hg
      have y := hD.c3
      have f := hD.f3
      have HD2 := Lib.hid (hD.put3 (.int .i64 (sV u4)))
      clear HD HS hr hg hD
      have HD := HD2
      clear HD2
      have HS := Lib.hid (small_any HD.out.rq)
      rw [EU5.out] at HS
      go_wp2_with fail
      generalize w7.setCell ⟨bx, 3, none⟩ (.int .i64 (sV u4)) = w7s at *
      clear y f
      refine HS.out.mono ?_
      rintro e w8 ⟨rfl, hr, hg⟩
      have hD := HD.out.call hr hg
      have y := hD.c5
      have f := hD.f5
      have HD2 := Lib.hid (hD.put5 (.int .i64 (sV u5)))
      clear HD HS hr hg hD
      have HD := HD2
      clear HD2
      have HCT : Hid (∀ b, BatAt l b → base = b.base ∧ pid = b.pid ∧ sV u3 = b.epoch ∧ sV u4 = b.seq ∧ (kind : Int) = b.kind ∧ sV u5 = b.time ∧ r7 = 0 ∧ HL l b q7) := fun b hb => by
        obtain ⟨t1, t2, t3, t4, p5, p6, q, k1, k2, k3, k4⟩ := HCA.out b hb
        have hF := hb.fine
        have hmf := HMB.out b t1
        obtain ⟨m1, m2, m3⟩ := k2 (by omega)
        subst t4
        obtain ⟨o1, o2, o3⟩ := small_of m1 hF.e1 (by have := hF.e2; omega) EU3.out
        subst o2 o3
        have m5 := m3 hmf
        obtain ⟨s1, s2, s3⟩ := small_of m5 hF.s1 (by have := hF.s2; omega) EU4.out
        subst s2 s3
        obtain ⟨n1, n2, n3⟩ := small_of k3 hF.t1 hF.t2 EU5.out
        subst n2
        exact ⟨t2, t3, o1, s1, t1, n1, n3, k4⟩
      clear HCA EU5 EU4 EU3
      have e2 := HD.out.rq.c2
      have z0 := HD.out.c0
      have z1 := HD.out.c1
      have z2 := HD.out.c2
      have z3 := HD.out.c3
      have z4 := HD.out.c4
      have z5 := HD.out.c5
      have z6 := HD.out.c6
      have hti := sV_in u5
      by_cases hr7 : r7 = 0
      · have dr : ((r7 : Int) == 0) = true := by rw [hr7]; rfl
        by_cases ht : 0 ≤ sV u5
        · have dt : decide (0 ≤ sV u5) = true := decide_eq_true ht
          go_wp2_with fail
          refine (HMK.out _ _ _ _ _ _ _ _ _).mono ?_
          rintro e wm ⟨rfl, hbm⟩
          have HD2 := Lib.hid (HD.out.below hbm)
          clear HD hbm z0 z1 z2 z3 z4 z5 z6 e2
          have HD := HD2
          clear HD2
          · have hU6 := trip (uR l q7 r7)
            obtain ⟨u6, q8, r8, hU6⟩ := hU6
            subst hr7
            have HRR := Lib.hid (rrecs_any g c q7 0 A l (sV u5) wm HD.out.rq ht (by omega))
            rw [hU6] at HRR
            have z5 := HD.out.c5
            go_wp2_with fail
            refine HRR.out.mono ?_
            rintro e wr ⟨L, A', c', q9, r9, rfl, hl65, hlc, hcm, hrc, hfa, hcp, hrq, hgr⟩
            have hlt := HD.out.lt
            have hg0b := HD.out.g0
            have hg1b := HD.out.g1
            have hD := HD.out.call hrq hgr
            have y6 := hD.c6
            have f6 := hD.f6
            have HLL : Hid (List.length L ≤ maxLen) := by show _ ≤ _; unfold maxLen; omega
            have HLC := Lib.hid hlc
            have HCM := Lib.hid hcm
            have HFA : Hid (∀ p : Addr, A' = some p → w.heap.size < p.block) := fun p h => by have := hfa p h; omega
            have HBQ : Hid (∀ b, BatAt l b → b = ⟨base, pid, sV u3, sV u4, kind, sV u5, L⟩) := fun b hb => by
              obtain ⟨t1, t2, t3, t4, t5, t6, t7, t8⟩ := HCT.out b hb
              have hF := hb.fine
              have hmf := HMB.out b t5
              obtain ⟨P, v1, v2⟩ := t8.2 hmf
              have v3 := uR_of v1
              rw [hU6] at v3
              injection v3 with v3 v4
              injection v4 with v4 v5
              have hL : L = b.L := hcp b.L P ⟨v5, by rw [t6]; exact hF.t2, hF.len, hF.recs, by show sV u6 = _; rw [v3]; exact sV_of (by have := hF.len; omega), v4.symm, by rw [t6]; exact v2⟩
              obtain ⟨bb, bp, be, bs, bk, bt, bL⟩ := b
              simp only at t1 t2 t3 t4 t5 t6 hL
              subst t1 t2 t3 t4 t5 t6
              rw [hL]
            have HRCW : Hid (Rcs (wr.setCell ⟨bx, 6, none⟩ (.slice A' (List.length L) c')) (wr.setCell ⟨bx, 6, none⟩ (.slice A' (List.length L) c')).heap.size A' (List.length L) L) := by
              refine Rcs.wider (B := wr.heap.size) ?_ (by simp)
              refine ⟨hrc.len, hrc.lies.far_ fun p hp i => ?_, hrc.ok⟩
              have hpb := hfa p hp
              have hpi := add_block p i
              have n0 : ¬ bx = (p.add i).block := by rw [hpi]; omega
              simp only [World.cell?_setCell_far, ne_eq, n0, not_false_eq_true]
            have HD2 := Lib.hid (hD.put6 (.slice A' (List.length L) c'))
            clear HD hD hlc hcm hrc hfa hcp hrq hgr z5
            have HD := HD2
            clear HD2
            have z0 := HD.out.c0
            have z1 := HD.out.c1
            have z2 := HD.out.c2
            have z3 := HD.out.c3
            have z4 := HD.out.c4
            have z5 := HD.out.c5
            have z6 := HD.out.c6
            go_wp2_with fail
            clear y6 f6
            refine (HEN.out (sV u3) (sV u4) (sV u5) L _ A' c' (HLL.out) HRCW.out).mono ?_
            rintro e wE ⟨Ao, co, rfl, ho1, ho2, hbo, hbE⟩
            have HDE := Lib.hid (HD.out.below hbE)
            have HRE : Hid (Rcs wE wE.heap.size A' (List.length L) L) := (HRCW.out.below hbE).wider hbE.size
            clear z0 z1 z2 z3 z4 z5 z6
            have HFI := Lib.hid (fine_iff (⟨base, pid, sV u3, sV u4, kind, sV u5, L⟩ : Bat))
            obtain ⟨V, hV⟩ : ∃ V, validE (⟨base, pid, sV u3, sV u4, kind, sV u5, L⟩ : Bat) = V := ⟨_, rfl⟩
            rw [hV] at hbo ho1 HFI ⊢
            obtain ⟨eb, heb⟩ : ∃ eb, (if V = 0 then encB (⟨base, pid, sV u3, sV u4, kind, sV u5, L⟩ : Bat) else []) = eb := ⟨_, rfl⟩
            have HEB := Lib.hid heb
            rw [heb] at hbo ho1 ⊢
            have s1 := hbo.str (P := Try.prog) Try.underlying25 Try.underlying5 Try.underlying9 co
            have s2 := (HBY.out wE HDE.out.bel).str (P := Try.prog) Try.underlying25 Try.underlying5 Try.underlying9 c
            have HNOT : Hid (¬ (V = 0 ∧ eb = l) → ∀ b, ¬ BatAt l b) := fun hn b hb => by
              have he := HBQ.out b hb
              have hF := hb.fine
              rw [he] at hF
              have h0 := HFI.out.2 hF
              refine hn ⟨h0, ?_⟩
              rw [← HEB.out, if_pos h0, ← he]
              exact (bat_strict hb).symm
            have HYES : Hid (V = 0 → eb = l → BatAt l (⟨base, pid, sV u3, sV u4, kind, sV u5, L⟩ : Bat)) := fun h0 h1 => by
              have hF := HFI.out.1 h0
              have h2 := HEB.out
              rw [if_pos h0] at h2
              rw [← h1, ← h2]
              exact batAt_enc _ hF
            clear hbo ho1 hbE hV heb HD HRCW
            have d0 : wE.cell? ⟨w.heap.size, 0, none⟩ = some (.int .i64 0) := cell_of_row _ _ 0 _ _ _ HDE.out.res
            have h0 : wE.frozen? ⟨w.heap.size, 0, none⟩ = false := frozen_of_row _ _ 0 _ _ HDE.out.res
            have d1 : wE.cell? ⟨w.heap.size, 1, none⟩ = some (.int .i64 0) := cell_of_row _ _ 1 _ _ _ HDE.out.res
            have h1 : wE.frozen? ⟨w.heap.size, 1, none⟩ = false := frozen_of_row _ _ 1 _ _ HDE.out.res
            have d2 : wE.cell? ⟨w.heap.size, 2, none⟩ = some (.int .i64 0) := cell_of_row _ _ 2 _ _ _ HDE.out.res
            have h2 : wE.frozen? ⟨w.heap.size, 2, none⟩ = false := frozen_of_row _ _ 2 _ _ HDE.out.res
            have d3 : wE.cell? ⟨w.heap.size, 3, none⟩ = some (.int .i64 0) := cell_of_row _ _ 3 _ _ _ HDE.out.res
            have h3 : wE.frozen? ⟨w.heap.size, 3, none⟩ = false := frozen_of_row _ _ 3 _ _ HDE.out.res
            have d4 : wE.cell? ⟨w.heap.size, 4, none⟩ = some (.int .i64 0) := cell_of_row _ _ 4 _ _ _ HDE.out.res
            have h4 : wE.frozen? ⟨w.heap.size, 4, none⟩ = false := frozen_of_row _ _ 4 _ _ HDE.out.res
            have d5 : wE.cell? ⟨w.heap.size, 5, none⟩ = some (.int .i64 0) := cell_of_row _ _ 5 _ _ _ HDE.out.res
            have h5 : wE.frozen? ⟨w.heap.size, 5, none⟩ = false := frozen_of_row _ _ 5 _ _ HDE.out.res
            have d6 : wE.cell? ⟨w.heap.size, 6, none⟩ = some (.slice none 0 0) := cell_of_row _ _ 6 _ _ _ HDE.out.res
            have h6 : wE.frozen? ⟨w.heap.size, 6, none⟩ = false := frozen_of_row _ _ 6 _ _ HDE.out.res
            by_cases hv : V = 0
            · by_cases hl : eb = l
              · have HY := Lib.hid (HYES.out hv hl)
                have hz1 : (V != 0) = false := by rw [hv]; rfl
                subst hl
                have hself : (eb == eb) = true := by simp
                have z0 := HDE.out.c0
                have z1 := HDE.out.c1
                have z2 := HDE.out.c2
                have z3 := HDE.out.c3
                have z4 := HDE.out.c4
                have z5 := HDE.out.c5
                have z6 := HDE.out.c6
                clear HNOT HYES HFI HEB
                go_wp2_with fail
                refine bodyPost_ret (v := .tuple #[.agg #[.int .i64 base, .int .i64 pid, .int .i64 (sV u3), .int .i64 (sV u4), .int .i64 (kind : Int), .int .i64 (sV u5), .slice A' (List.length L) c'], .int .i64 0]) (by simp [results, Try.results8, go_sem, d0, d1, d2, d3, d4, d5, d6]) rfl ?_
                refine HX1.out (⟨base, pid, sV u3, sV u4, kind, sV u5, L⟩ : Bat) A' c' _ HY.out HLC.out HCM.out ?_ ?_
                · refine Rcs.wider (B := wE.heap.size) ?_ (by simp)
                  refine ⟨HRE.out.len, HRE.out.lies.far_ fun p hp i => ?_, HRE.out.ok⟩
                  have hpb := HFA.out p hp
                  have hpi := add_block p i
                  have n0 : ¬ w.heap.size = (p.add i).block := by rw [hpi]; omega
                  simp only [World.cell?_setCell_far, ne_eq, n0, not_false_eq_true]
                · repeat refine Below.setCell ?_ (by simp) _
                  exact HDE.out.bel
              · have HN := Lib.hid (HNOT.out (fun q => hl q.2))
                have hz1 : (V != 0) = false := by rw [hv]; rfl
                have hne : (eb == l) = false := by rw [beq_eq_false_iff_ne]; exact hl
                clear HNOT HYES HFI HEB
                go_wp2_with fail
                refine bodyPost_ret (v := .tuple #[.agg #[.int .i64 0, .int .i64 0, .int .i64 0, .int .i64 0, .int .i64 0, .int .i64 0, .slice none 0 0], .int .i64 6]) (by simp [results, Try.results8, go_sem, d0, d1, d2, d3, d4, d5, d6]) rfl ?_
                refine HX0.out _ HN.out ?_
                repeat refine Below.setCell ?_ (by simp) _
                exact HDE.out.bel
            · have HN := Lib.hid (HNOT.out (fun q => hv q.1))
              have hz1 : (V != 0) = true := by rw [bne_iff_ne]; exact hv
              clear HNOT HYES HFI HEB s1 s2
              go_wp2_with fail
              refine bodyPost_ret (v := .tuple #[.agg #[.int .i64 0, .int .i64 0, .int .i64 0, .int .i64 0, .int .i64 0, .int .i64 0, .slice none 0 0], .int .i64 6]) (by simp [results, Try.results8, go_sem, d0, d1, d2, d3, d4, d5, d6]) rfl ?_
              refine HX0.out _ HN.out ?_
              repeat refine Below.setCell ?_ (by simp) _
              exact HDE.out.bel
        · have dt : decide (0 ≤ sV u5) = false := decide_eq_false ht
          have HBQ : Hid (∀ b, BatAt l b → b = ⟨base, pid, sV u3, sV u4, kind, sV u5, []⟩) := fun b hb => by
            obtain ⟨t1, t2, t3, t4, t5, t6, t7, t8⟩ := HCT.out b hb
            have := hb.fine.t1
            omega
          have HLL : Hid (([] : List Rec).length ≤ maxLen) := Nat.zero_le _
          have HLC : Hid (([] : List Rec).length ≤ 0) := Nat.le_refl _
          have HCM : Hid (0 ≤ maxLen) := Nat.zero_le _
          have HFA : Hid (∀ p : Addr, (none : Option Addr) = some p → w.heap.size < p.block) := fun p h => by cases h
          go_wp2_with fail
          have HRCW : Hid (Rcs (w8.setCell ⟨bx, 5, none⟩ (.int .i64 (sV u5))) (World.heap (w8.setCell ⟨bx, 5, none⟩ (.int .i64 (sV u5)))).size none ([] : List Rec).length []) := Rcs.nil_
          refine (HEN.out (sV u3) (sV u4) (sV u5) ([] : List Rec) _ none 0 (HLL.out) HRCW.out).mono ?_
          rintro e wE ⟨Ao, co, rfl, ho1, ho2, hbo, hbE⟩
          have HDE := Lib.hid (HD.out.below hbE)
          have HRE : Hid (Rcs wE wE.heap.size none (List.length ([] : List Rec)) ([] : List Rec)) := (HRCW.out.below hbE).wider hbE.size
          clear z0 z1 z2 z3 z4 z5 z6
          have HFI := Lib.hid (fine_iff (⟨base, pid, sV u3, sV u4, kind, sV u5, ([] : List Rec)⟩ : Bat))
          obtain ⟨V, hV⟩ : ∃ V, validE (⟨base, pid, sV u3, sV u4, kind, sV u5, ([] : List Rec)⟩ : Bat) = V := ⟨_, rfl⟩
          rw [hV] at hbo ho1 HFI ⊢
          obtain ⟨eb, heb⟩ : ∃ eb, (if V = 0 then encB (⟨base, pid, sV u3, sV u4, kind, sV u5, ([] : List Rec)⟩ : Bat) else []) = eb := ⟨_, rfl⟩
          have HEB := Lib.hid heb
          rw [heb] at hbo ho1 ⊢
          have s1 := hbo.str (P := Try.prog) Try.underlying25 Try.underlying5 Try.underlying9 co
          have s2 := (HBY.out wE HDE.out.bel).str (P := Try.prog) Try.underlying25 Try.underlying5 Try.underlying9 c
          have HNOT : Hid (¬ (V = 0 ∧ eb = l) → ∀ b, ¬ BatAt l b) := fun hn b hb => by
            have he := HBQ.out b hb
            have hF := hb.fine
            rw [he] at hF
            have h0 := HFI.out.2 hF
            refine hn ⟨h0, ?_⟩
            rw [← HEB.out, if_pos h0, ← he]
            exact (bat_strict hb).symm
          have HYES : Hid (V = 0 → eb = l → BatAt l (⟨base, pid, sV u3, sV u4, kind, sV u5, ([] : List Rec)⟩ : Bat)) := fun h0 h1 => by
            have hF := HFI.out.1 h0
            have h2 := HEB.out
            rw [if_pos h0] at h2
            rw [← h1, ← h2]
            exact batAt_enc _ hF
          clear hbo ho1 hbE hV heb HD HRCW
          have d0 : wE.cell? ⟨w.heap.size, 0, none⟩ = some (.int .i64 0) := cell_of_row _ _ 0 _ _ _ HDE.out.res
          have h0 : wE.frozen? ⟨w.heap.size, 0, none⟩ = false := frozen_of_row _ _ 0 _ _ HDE.out.res
          have d1 : wE.cell? ⟨w.heap.size, 1, none⟩ = some (.int .i64 0) := cell_of_row _ _ 1 _ _ _ HDE.out.res
          have h1 : wE.frozen? ⟨w.heap.size, 1, none⟩ = false := frozen_of_row _ _ 1 _ _ HDE.out.res
          have d2 : wE.cell? ⟨w.heap.size, 2, none⟩ = some (.int .i64 0) := cell_of_row _ _ 2 _ _ _ HDE.out.res
          have h2 : wE.frozen? ⟨w.heap.size, 2, none⟩ = false := frozen_of_row _ _ 2 _ _ HDE.out.res
          have d3 : wE.cell? ⟨w.heap.size, 3, none⟩ = some (.int .i64 0) := cell_of_row _ _ 3 _ _ _ HDE.out.res
          have h3 : wE.frozen? ⟨w.heap.size, 3, none⟩ = false := frozen_of_row _ _ 3 _ _ HDE.out.res
          have d4 : wE.cell? ⟨w.heap.size, 4, none⟩ = some (.int .i64 0) := cell_of_row _ _ 4 _ _ _ HDE.out.res
          have h4 : wE.frozen? ⟨w.heap.size, 4, none⟩ = false := frozen_of_row _ _ 4 _ _ HDE.out.res
          have d5 : wE.cell? ⟨w.heap.size, 5, none⟩ = some (.int .i64 0) := cell_of_row _ _ 5 _ _ _ HDE.out.res
          have h5 : wE.frozen? ⟨w.heap.size, 5, none⟩ = false := frozen_of_row _ _ 5 _ _ HDE.out.res
          have d6 : wE.cell? ⟨w.heap.size, 6, none⟩ = some (.slice none 0 0) := cell_of_row _ _ 6 _ _ _ HDE.out.res
          have h6 : wE.frozen? ⟨w.heap.size, 6, none⟩ = false := frozen_of_row _ _ 6 _ _ HDE.out.res
          by_cases hv : V = 0
          · by_cases hl : eb = l
            · have HY := Lib.hid (HYES.out hv hl)
              have hz1 : (V != 0) = false := by rw [hv]; rfl
              subst hl
              have hself : (eb == eb) = true := by simp
              have z0 := HDE.out.c0
              have z1 := HDE.out.c1
              have z2 := HDE.out.c2
              have z3 := HDE.out.c3
              have z4 := HDE.out.c4
              have z5 := HDE.out.c5
              have z6 := HDE.out.c6
              clear HNOT HYES HFI HEB
              go_wp2_with fail
              refine bodyPost_ret (v := .tuple #[.agg #[.int .i64 base, .int .i64 pid, .int .i64 (sV u3), .int .i64 (sV u4), .int .i64 (kind : Int), .int .i64 (sV u5), .slice none (List.length ([] : List Rec)) 0], .int .i64 0]) (by simp [results, Try.results8, go_sem, d0, d1, d2, d3, d4, d5, d6]) rfl ?_
              refine HX1.out (⟨base, pid, sV u3, sV u4, kind, sV u5, ([] : List Rec)⟩ : Bat) none 0 _ HY.out HLC.out HCM.out ?_ ?_
              · refine Rcs.wider (B := wE.heap.size) ?_ (by simp)
                refine ⟨HRE.out.len, HRE.out.lies.far_ fun p hp i => ?_, HRE.out.ok⟩
                have hpb := HFA.out p hp
                have hpi := add_block p i
                have n0 : ¬ w.heap.size = (p.add i).block := by rw [hpi]; omega
                simp only [World.cell?_setCell_far, ne_eq, n0, not_false_eq_true]
              · repeat refine Below.setCell ?_ (by simp) _
                exact HDE.out.bel
            · have HN := Lib.hid (HNOT.out (fun q => hl q.2))
              have hz1 : (V != 0) = false := by rw [hv]; rfl
              have hne : (eb == l) = false := by rw [beq_eq_false_iff_ne]; exact hl
              clear HNOT HYES HFI HEB
              go_wp2_with fail
              refine bodyPost_ret (v := .tuple #[.agg #[.int .i64 0, .int .i64 0, .int .i64 0, .int .i64 0, .int .i64 0, .int .i64 0, .slice none 0 0], .int .i64 6]) (by simp [results, Try.results8, go_sem, d0, d1, d2, d3, d4, d5, d6]) rfl ?_
              refine HX0.out _ HN.out ?_
              repeat refine Below.setCell ?_ (by simp) _
              exact HDE.out.bel
          · have HN := Lib.hid (HNOT.out (fun q => hv q.1))
            have hz1 : (V != 0) = true := by rw [bne_iff_ne]; exact hv
            clear HNOT HYES HFI HEB s1 s2
            go_wp2_with fail
            refine bodyPost_ret (v := .tuple #[.agg #[.int .i64 0, .int .i64 0, .int .i64 0, .int .i64 0, .int .i64 0, .int .i64 0, .slice none 0 0], .int .i64 6]) (by simp [results, Try.results8, go_sem, d0, d1, d2, d3, d4, d5, d6]) rfl ?_
            refine HX0.out _ HN.out ?_
            repeat refine Below.setCell ?_ (by simp) _
            exact HDE.out.bel
      · have dr : ((r7 : Int) == 0) = false := by rw [beq_eq_false_iff_ne]; omega
        have HBQ : Hid (∀ b, BatAt l b → b = ⟨base, pid, sV u3, sV u4, kind, sV u5, []⟩) := fun b hb => by
          obtain ⟨t1, t2, t3, t4, t5, t6, t7, t8⟩ := HCT.out b hb
          exact absurd t7 hr7
        have HLL : Hid (([] : List Rec).length ≤ maxLen) := Nat.zero_le _
        have HLC : Hid (([] : List Rec).length ≤ 0) := Nat.le_refl _
        have HCM : Hid (0 ≤ maxLen) := Nat.zero_le _
        have HFA : Hid (∀ p : Addr, (none : Option Addr) = some p → w.heap.size < p.block) := fun p h => by cases h
        go_wp2_with fail
        have HRCW : Hid (Rcs (w8.setCell ⟨bx, 5, none⟩ (.int .i64 (sV u5))) (World.heap (w8.setCell ⟨bx, 5, none⟩ (.int .i64 (sV u5)))).size none ([] : List Rec).length []) := Rcs.nil_
        refine (HEN.out (sV u3) (sV u4) (sV u5) ([] : List Rec) _ none 0 (HLL.out) HRCW.out).mono ?_
        rintro e wE ⟨Ao, co, rfl, ho1, ho2, hbo, hbE⟩
        have HDE := Lib.hid (HD.out.below hbE)
        have HRE : Hid (Rcs wE wE.heap.size none (List.length ([] : List Rec)) ([] : List Rec)) := (HRCW.out.below hbE).wider hbE.size
        clear z0 z1 z2 z3 z4 z5 z6
        have HFI := Lib.hid (fine_iff (⟨base, pid, sV u3, sV u4, kind, sV u5, ([] : List Rec)⟩ : Bat))
        obtain ⟨V, hV⟩ : ∃ V, validE (⟨base, pid, sV u3, sV u4, kind, sV u5, ([] : List Rec)⟩ : Bat) = V := ⟨_, rfl⟩
        rw [hV] at hbo ho1 HFI ⊢
        obtain ⟨eb, heb⟩ : ∃ eb, (if V = 0 then encB (⟨base, pid, sV u3, sV u4, kind, sV u5, ([] : List Rec)⟩ : Bat) else []) = eb := ⟨_, rfl⟩
        have HEB := Lib.hid heb
        rw [heb] at hbo ho1 ⊢
        have s1 := hbo.str (P := Try.prog) Try.underlying25 Try.underlying5 Try.underlying9 co
        have s2 := (HBY.out wE HDE.out.bel).str (P := Try.prog) Try.underlying25 Try.underlying5 Try.underlying9 c
        have HNOT : Hid (¬ (V = 0 ∧ eb = l) → ∀ b, ¬ BatAt l b) := fun hn b hb => by
          have he := HBQ.out b hb
          have hF := hb.fine
          rw [he] at hF
          have h0 := HFI.out.2 hF
          refine hn ⟨h0, ?_⟩
          rw [← HEB.out, if_pos h0, ← he]
          exact (bat_strict hb).symm
        have HYES : Hid (V = 0 → eb = l → BatAt l (⟨base, pid, sV u3, sV u4, kind, sV u5, ([] : List Rec)⟩ : Bat)) := fun h0 h1 => by
          have hF := HFI.out.1 h0
          have h2 := HEB.out
          rw [if_pos h0] at h2
          rw [← h1, ← h2]
          exact batAt_enc _ hF
        clear hbo ho1 hbE hV heb HD HRCW
        have d0 : wE.cell? ⟨w.heap.size, 0, none⟩ = some (.int .i64 0) := cell_of_row _ _ 0 _ _ _ HDE.out.res
        have h0 : wE.frozen? ⟨w.heap.size, 0, none⟩ = false := frozen_of_row _ _ 0 _ _ HDE.out.res
        have d1 : wE.cell? ⟨w.heap.size, 1, none⟩ = some (.int .i64 0) := cell_of_row _ _ 1 _ _ _ HDE.out.res
        have h1 : wE.frozen? ⟨w.heap.size, 1, none⟩ = false := frozen_of_row _ _ 1 _ _ HDE.out.res
        have d2 : wE.cell? ⟨w.heap.size, 2, none⟩ = some (.int .i64 0) := cell_of_row _ _ 2 _ _ _ HDE.out.res
        have h2 : wE.frozen? ⟨w.heap.size, 2, none⟩ = false := frozen_of_row _ _ 2 _ _ HDE.out.res
        have d3 : wE.cell? ⟨w.heap.size, 3, none⟩ = some (.int .i64 0) := cell_of_row _ _ 3 _ _ _ HDE.out.res
        have h3 : wE.frozen? ⟨w.heap.size, 3, none⟩ = false := frozen_of_row _ _ 3 _ _ HDE.out.res
        have d4 : wE.cell? ⟨w.heap.size, 4, none⟩ = some (.int .i64 0) := cell_of_row _ _ 4 _ _ _ HDE.out.res
        have h4 : wE.frozen? ⟨w.heap.size, 4, none⟩ = false := frozen_of_row _ _ 4 _ _ HDE.out.res
        have d5 : wE.cell? ⟨w.heap.size, 5, none⟩ = some (.int .i64 0) := cell_of_row _ _ 5 _ _ _ HDE.out.res
        have h5 : wE.frozen? ⟨w.heap.size, 5, none⟩ = false := frozen_of_row _ _ 5 _ _ HDE.out.res
        have d6 : wE.cell? ⟨w.heap.size, 6, none⟩ = some (.slice none 0 0) := cell_of_row _ _ 6 _ _ _ HDE.out.res
        have h6 : wE.frozen? ⟨w.heap.size, 6, none⟩ = false := frozen_of_row _ _ 6 _ _ HDE.out.res
        by_cases hv : V = 0
        · by_cases hl : eb = l
          · have HY := Lib.hid (HYES.out hv hl)
            have hz1 : (V != 0) = false := by rw [hv]; rfl
            subst hl
            have hself : (eb == eb) = true := by simp
            have z0 := HDE.out.c0
            have z1 := HDE.out.c1
            have z2 := HDE.out.c2
            have z3 := HDE.out.c3
            have z4 := HDE.out.c4
            have z5 := HDE.out.c5
            have z6 := HDE.out.c6
            clear HNOT HYES HFI HEB
            go_wp2_with fail
            refine bodyPost_ret (v := .tuple #[.agg #[.int .i64 base, .int .i64 pid, .int .i64 (sV u3), .int .i64 (sV u4), .int .i64 (kind : Int), .int .i64 (sV u5), .slice none (List.length ([] : List Rec)) 0], .int .i64 0]) (by simp [results, Try.results8, go_sem, d0, d1, d2, d3, d4, d5, d6]) rfl ?_
            refine HX1.out (⟨base, pid, sV u3, sV u4, kind, sV u5, ([] : List Rec)⟩ : Bat) none 0 _ HY.out HLC.out HCM.out ?_ ?_
            · refine Rcs.wider (B := wE.heap.size) ?_ (by simp)
              refine ⟨HRE.out.len, HRE.out.lies.far_ fun p hp i => ?_, HRE.out.ok⟩
              have hpb := HFA.out p hp
              have hpi := add_block p i
              have n0 : ¬ w.heap.size = (p.add i).block := by rw [hpi]; omega
              simp only [World.cell?_setCell_far, ne_eq, n0, not_false_eq_true]
            · repeat refine Below.setCell ?_ (by simp) _
              exact HDE.out.bel
          · have HN := Lib.hid (HNOT.out (fun q => hl q.2))
            have hz1 : (V != 0) = false := by rw [hv]; rfl
            have hne : (eb == l) = false := by rw [beq_eq_false_iff_ne]; exact hl
            clear HNOT HYES HFI HEB
            go_wp2_with fail
            refine bodyPost_ret (v := .tuple #[.agg #[.int .i64 0, .int .i64 0, .int .i64 0, .int .i64 0, .int .i64 0, .int .i64 0, .slice none 0 0], .int .i64 6]) (by simp [results, Try.results8, go_sem, d0, d1, d2, d3, d4, d5, d6]) rfl ?_
            refine HX0.out _ HN.out ?_
            repeat refine Below.setCell ?_ (by simp) _
            exact HDE.out.bel
        · have HN := Lib.hid (HNOT.out (fun q => hv q.1))
          have hz1 : (V != 0) = true := by rw [bne_iff_ne]; exact hv
          clear HNOT HYES HFI HEB s1 s2
          go_wp2_with fail
          refine bodyPost_ret (v := .tuple #[.agg #[.int .i64 0, .int .i64 0, .int .i64 0, .int .i64 0, .int .i64 0, .int .i64 0, .slice none 0 0], .int .i64 6]) (by simp [results, Try.results8, go_sem, d0, d1, d2, d3, d4, d5, d6]) rfl ?_
          refine HX0.out _ HN.out ?_
          repeat refine Below.setCell ?_ (by simp) _
          exact HDE.out.bel
  · have dp : decide (0 < pid) = false := decide_eq_false hp
    obtain ⟨u5, q7, r7, hU5⟩ := trip (uR l q4 r4)
    have EU5 := Lib.hid hU5
    have HS := Lib.hid (small_any HD.out.rq)
    rw [EU5.out] at HS
    go_wp2_with fail
    generalize w5.setCell ⟨bx, 1, none⟩ (.int .i64 pid) = w5s at *
    clear y f hp1
    refine HS.out.mono ?_
    rintro e w6 ⟨rfl, hr, hg⟩
    have hD := HD.out.call hr hg
    have y := hD.c5
    have f := hD.f5
    have HD2 := Lib.hid (hD.put5 (.int .i64 (sV u5)))
    clear HD HS hr hg hD
    have HD := HD2
    clear HD2
    have HCT : Hid (∀ b, BatAt l b → base = b.base ∧ pid = b.pid ∧ 0 = b.epoch ∧ 0 = b.seq ∧ (kind : Int) = b.kind ∧ sV u5 = b.time ∧ r7 = 0 ∧ HL l b q7) := fun b hb => by
      obtain ⟨t1, t2, t3, t4, p5, p6, q, k1, k2, k3, k4⟩ := HCA.out b hb
      have hF := hb.fine
      have ha1 := hF.p1
      obtain ⟨m1, m2, m3⟩ := k1 (by omega)
      subst t4 m3
      obtain ⟨n1, n2, n3⟩ := small_of k3 hF.t1 hF.t2 EU5.out
      subst n2
      exact ⟨t2, t3, m1.symm, m2.symm, t1, n1, n3, k4⟩
    clear HCA EU5
    have e2 := HD.out.rq.c2
    have z0 := HD.out.c0
    have z1 := HD.out.c1
    have z2 := HD.out.c2
    have z3 := HD.out.c3
    have z4 := HD.out.c4
    have z5 := HD.out.c5
    have z6 := HD.out.c6
    have hti := sV_in u5
    by_cases hr7 : r7 = 0
    · have dr : ((r7 : Int) == 0) = true := by rw [hr7]; rfl
      by_cases ht : 0 ≤ sV u5
      · have dt : decide (0 ≤ sV u5) = true := decide_eq_true ht
        go_wp2_with fail
        refine (HMK.out _ _ _ _ _ _ _ _ _).mono ?_
        rintro e wm ⟨rfl, hbm⟩
        have HD2 := Lib.hid (HD.out.below hbm)
        clear HD hbm z0 z1 z2 z3 z4 z5 z6 e2
        have HD := HD2
        clear HD2
        cases mk with
        | true =>
          have HBQ : Hid (∀ b, BatAt l b → b = ⟨base, pid, 0, 0, kind, sV u5, []⟩) := fun b hb => by
            obtain ⟨t1, t2, t3, t4, t5, t6, t7, t8⟩ := HCT.out b hb
            obtain ⟨bb, bp, be, bs, bk, bt, bL⟩ := b
            simp only at t1 t2 t3 t4 t5 t6
            have := t8.1 (HMB.out _ t5)
            simp only at this
            subst t1 t2 t3 t4 t5 t6
            rw [this]
          have z0 := HD.out.c0
          have z1 := HD.out.c1
          have z2 := HD.out.c2
          have z3 := HD.out.c3
          have z4 := HD.out.c4
          have z5 := HD.out.c5
          have z6 := HD.out.c6
          have HLL : Hid (([] : List Rec).length ≤ maxLen) := Nat.zero_le _
          have HLC : Hid (([] : List Rec).length ≤ 0) := Nat.le_refl _
          have HCM : Hid (0 ≤ maxLen) := Nat.zero_le _
          have HFA : Hid (∀ p : Addr, (none : Option Addr) = some p → w.heap.size < p.block) := fun p h => by cases h
          go_wp2_with fail
          have HRCW : Hid (Rcs wm (World.heap wm).size none ([] : List Rec).length []) := Rcs.nil_
          refine (HEN.out (0) (0) (sV u5) ([] : List Rec) _ none 0 (HLL.out) HRCW.out).mono ?_
          rintro e wE ⟨Ao, co, rfl, ho1, ho2, hbo, hbE⟩
          have HDE := Lib.hid (HD.out.below hbE)
          have HRE : Hid (Rcs wE wE.heap.size none (List.length ([] : List Rec)) ([] : List Rec)) := (HRCW.out.below hbE).wider hbE.size
          clear z0 z1 z2 z3 z4 z5 z6
          have HFI := Lib.hid (fine_iff (⟨base, pid, 0, 0, kind, sV u5, ([] : List Rec)⟩ : Bat))
          obtain ⟨V, hV⟩ : ∃ V, validE (⟨base, pid, 0, 0, kind, sV u5, ([] : List Rec)⟩ : Bat) = V := ⟨_, rfl⟩
          rw [hV] at hbo ho1 HFI ⊢
          obtain ⟨eb, heb⟩ : ∃ eb, (if V = 0 then encB (⟨base, pid, 0, 0, kind, sV u5, ([] : List Rec)⟩ : Bat) else []) = eb := ⟨_, rfl⟩
          have HEB := Lib.hid heb
          rw [heb] at hbo ho1 ⊢
          have s1 := hbo.str (P := Try.prog) Try.underlying25 Try.underlying5 Try.underlying9 co
          have s2 := (HBY.out wE HDE.out.bel).str (P := Try.prog) Try.underlying25 Try.underlying5 Try.underlying9 c
          have HNOT : Hid (¬ (V = 0 ∧ eb = l) → ∀ b, ¬ BatAt l b) := fun hn b hb => by
            have he := HBQ.out b hb
            have hF := hb.fine
            rw [he] at hF
            have h0 := HFI.out.2 hF
            refine hn ⟨h0, ?_⟩
            rw [← HEB.out, if_pos h0, ← he]
            exact (bat_strict hb).symm
          have HYES : Hid (V = 0 → eb = l → BatAt l (⟨base, pid, 0, 0, kind, sV u5, ([] : List Rec)⟩ : Bat)) := fun h0 h1 => by
            have hF := HFI.out.1 h0
            have h2 := HEB.out
            rw [if_pos h0] at h2
            rw [← h1, ← h2]
            exact batAt_enc _ hF
          clear hbo ho1 hbE hV heb HD HRCW
          have d0 : wE.cell? ⟨w.heap.size, 0, none⟩ = some (.int .i64 0) := cell_of_row _ _ 0 _ _ _ HDE.out.res
          have h0 : wE.frozen? ⟨w.heap.size, 0, none⟩ = false := frozen_of_row _ _ 0 _ _ HDE.out.res
          have d1 : wE.cell? ⟨w.heap.size, 1, none⟩ = some (.int .i64 0) := cell_of_row _ _ 1 _ _ _ HDE.out.res
          have h1 : wE.frozen? ⟨w.heap.size, 1, none⟩ = false := frozen_of_row _ _ 1 _ _ HDE.out.res
          have d2 : wE.cell? ⟨w.heap.size, 2, none⟩ = some (.int .i64 0) := cell_of_row _ _ 2 _ _ _ HDE.out.res
          have h2 : wE.frozen? ⟨w.heap.size, 2, none⟩ = false := frozen_of_row _ _ 2 _ _ HDE.out.res
          have d3 : wE.cell? ⟨w.heap.size, 3, none⟩ = some (.int .i64 0) := cell_of_row _ _ 3 _ _ _ HDE.out.res
          have h3 : wE.frozen? ⟨w.heap.size, 3, none⟩ = false := frozen_of_row _ _ 3 _ _ HDE.out.res
          have d4 : wE.cell? ⟨w.heap.size, 4, none⟩ = some (.int .i64 0) := cell_of_row _ _ 4 _ _ _ HDE.out.res
          have h4 : wE.frozen? ⟨w.heap.size, 4, none⟩ = false := frozen_of_row _ _ 4 _ _ HDE.out.res
          have d5 : wE.cell? ⟨w.heap.size, 5, none⟩ = some (.int .i64 0) := cell_of_row _ _ 5 _ _ _ HDE.out.res
          have h5 : wE.frozen? ⟨w.heap.size, 5, none⟩ = false := frozen_of_row _ _ 5 _ _ HDE.out.res
          have d6 : wE.cell? ⟨w.heap.size, 6, none⟩ = some (.slice none 0 0) := cell_of_row _ _ 6 _ _ _ HDE.out.res
          have h6 : wE.frozen? ⟨w.heap.size, 6, none⟩ = false := frozen_of_row _ _ 6 _ _ HDE.out.res
          by_cases hv : V = 0
          · by_cases hl : eb = l
            · have HY := Lib.hid (HYES.out hv hl)
              have hz1 : (V != 0) = false := by rw [hv]; rfl
              subst hl
              have hself : (eb == eb) = true := by simp
              have z0 := HDE.out.c0
              have z1 := HDE.out.c1
              have z2 := HDE.out.c2
              have z3 := HDE.out.c3
              have z4 := HDE.out.c4
              have z5 := HDE.out.c5
              have z6 := HDE.out.c6
              clear HNOT HYES HFI HEB
              go_wp2_with fail
              refine bodyPost_ret (v := .tuple #[.agg #[.int .i64 base, .int .i64 pid, .int .i64 (0), .int .i64 (0), .int .i64 (kind : Int), .int .i64 (sV u5), .slice none (List.length ([] : List Rec)) 0], .int .i64 0]) (by simp [results, Try.results8, go_sem, d0, d1, d2, d3, d4, d5, d6]) rfl ?_
              refine HX1.out (⟨base, pid, 0, 0, kind, sV u5, ([] : List Rec)⟩ : Bat) none 0 _ HY.out HLC.out HCM.out ?_ ?_
              · refine Rcs.wider (B := wE.heap.size) ?_ (by simp)
                refine ⟨HRE.out.len, HRE.out.lies.far_ fun p hp i => ?_, HRE.out.ok⟩
                have hpb := HFA.out p hp
                have hpi := add_block p i
                have n0 : ¬ w.heap.size = (p.add i).block := by rw [hpi]; omega
                simp only [World.cell?_setCell_far, ne_eq, n0, not_false_eq_true]
              · repeat refine Below.setCell ?_ (by simp) _
                exact HDE.out.bel
            · have HN := Lib.hid (HNOT.out (fun q => hl q.2))
              have hz1 : (V != 0) = false := by rw [hv]; rfl
              have hne : (eb == l) = false := by rw [beq_eq_false_iff_ne]; exact hl
              clear HNOT HYES HFI HEB
              go_wp2_with fail
              refine bodyPost_ret (v := .tuple #[.agg #[.int .i64 0, .int .i64 0, .int .i64 0, .int .i64 0, .int .i64 0, .int .i64 0, .slice none 0 0], .int .i64 6]) (by simp [results, Try.results8, go_sem, d0, d1, d2, d3, d4, d5, d6]) rfl ?_
              refine HX0.out _ HN.out ?_
              repeat refine Below.setCell ?_ (by simp) _
              exact HDE.out.bel
          · have HN := Lib.hid (HNOT.out (fun q => hv q.1))
            have hz1 : (V != 0) = true := by rw [bne_iff_ne]; exact hv
            clear HNOT HYES HFI HEB s1 s2
            go_wp2_with fail
            refine bodyPost_ret (v := .tuple #[.agg #[.int .i64 0, .int .i64 0, .int .i64 0, .int .i64 0, .int .i64 0, .int .i64 0, .slice none 0 0], .int .i64 6]) (by simp [results, Try.results8, go_sem, d0, d1, d2, d3, d4, d5, d6]) rfl ?_
            refine HX0.out _ HN.out ?_
            repeat refine Below.setCell ?_ (by simp) _
            exact HDE.out.bel
        | false =>
          have hU6 := trip (uR l q7 r7)
          obtain ⟨u6, q8, r8, hU6⟩ := hU6
          subst hr7
          have HRR := Lib.hid (rrecs_any g c q7 0 A l (sV u5) wm HD.out.rq ht (by omega))
          rw [hU6] at HRR
          have z5 := HD.out.c5
          go_wp2_with fail
          refine HRR.out.mono ?_
          rintro e wr ⟨L, A', c', q9, r9, rfl, hl65, hlc, hcm, hrc, hfa, hcp, hrq, hgr⟩
          have hlt := HD.out.lt
          have hg0b := HD.out.g0
          have hg1b := HD.out.g1
          have hD := HD.out.call hrq hgr
          have y6 := hD.c6
          have f6 := hD.f6
          have HLL : Hid (List.length L ≤ maxLen) := by show _ ≤ _; unfold maxLen; omega
          have HLC := Lib.hid hlc
          have HCM := Lib.hid hcm
          have HFA : Hid (∀ p : Addr, A' = some p → w.heap.size < p.block) := fun p h => by have := hfa p h; omega
          have HBQ : Hid (∀ b, BatAt l b → b = ⟨base, pid, 0, 0, kind, sV u5, L⟩) := fun b hb => by
            obtain ⟨t1, t2, t3, t4, t5, t6, t7, t8⟩ := HCT.out b hb
            have hF := hb.fine
            have hmf := HMB.out b t5
            obtain ⟨P, v1, v2⟩ := t8.2 hmf
            have v3 := uR_of v1
            rw [hU6] at v3
            injection v3 with v3 v4
            injection v4 with v4 v5
            have hL : L = b.L := hcp b.L P ⟨v5, by rw [t6]; exact hF.t2, hF.len, hF.recs, by show sV u6 = _; rw [v3]; exact sV_of (by have := hF.len; omega), v4.symm, by rw [t6]; exact v2⟩
            obtain ⟨bb, bp, be, bs, bk, bt, bL⟩ := b
            simp only at t1 t2 t3 t4 t5 t6 hL
            subst t1 t2 t3 t4 t5 t6
            rw [hL]
          have HRCW : Hid (Rcs (wr.setCell ⟨bx, 6, none⟩ (.slice A' (List.length L) c')) (wr.setCell ⟨bx, 6, none⟩ (.slice A' (List.length L) c')).heap.size A' (List.length L) L) := by
            refine Rcs.wider (B := wr.heap.size) ?_ (by simp)
            refine ⟨hrc.len, hrc.lies.far_ fun p hp i => ?_, hrc.ok⟩
            have hpb := hfa p hp
            have hpi := add_block p i
            have n0 : ¬ bx = (p.add i).block := by rw [hpi]; omega
            simp only [World.cell?_setCell_far, ne_eq, n0, not_false_eq_true]
          have HD2 := Lib.hid (hD.put6 (.slice A' (List.length L) c'))
          clear HD hD hlc hcm hrc hfa hcp hrq hgr z5
          have HD := HD2
          clear HD2
          have z0 := HD.out.c0
          have z1 := HD.out.c1
          have z2 := HD.out.c2
          have z3 := HD.out.c3
          have z4 := HD.out.c4
          have z5 := HD.out.c5
          have z6 := HD.out.c6
          go_wp2_with fail
          clear y6 f6
          refine (HEN.out (0) (0) (sV u5) L _ A' c' (HLL.out) HRCW.out).mono ?_
          rintro e wE ⟨Ao, co, rfl, ho1, ho2, hbo, hbE⟩
          have HDE := Lib.hid (HD.out.below hbE)
          have HRE : Hid (Rcs wE wE.heap.size A' (List.length L) L) := (HRCW.out.below hbE).wider hbE.size
          clear z0 z1 z2 z3 z4 z5 z6
          have HFI := Lib.hid (fine_iff (⟨base, pid, 0, 0, kind, sV u5, L⟩ : Bat))
          obtain ⟨V, hV⟩ : ∃ V, validE (⟨base, pid, 0, 0, kind, sV u5, L⟩ : Bat) = V := ⟨_, rfl⟩
          rw [hV] at hbo ho1 HFI ⊢
          obtain ⟨eb, heb⟩ : ∃ eb, (if V = 0 then encB (⟨base, pid, 0, 0, kind, sV u5, L⟩ : Bat) else []) = eb := ⟨_, rfl⟩
          have HEB := Lib.hid heb
          rw [heb] at hbo ho1 ⊢
          have s1 := hbo.str (P := Try.prog) Try.underlying25 Try.underlying5 Try.underlying9 co
          have s2 := (HBY.out wE HDE.out.bel).str (P := Try.prog) Try.underlying25 Try.underlying5 Try.underlying9 c
          have HNOT : Hid (¬ (V = 0 ∧ eb = l) → ∀ b, ¬ BatAt l b) := fun hn b hb => by
            have he := HBQ.out b hb
            have hF := hb.fine
            rw [he] at hF
            have h0 := HFI.out.2 hF
            refine hn ⟨h0, ?_⟩
            rw [← HEB.out, if_pos h0, ← he]
            exact (bat_strict hb).symm
          have HYES : Hid (V = 0 → eb = l → BatAt l (⟨base, pid, 0, 0, kind, sV u5, L⟩ : Bat)) := fun h0 h1 => by
            have hF := HFI.out.1 h0
            have h2 := HEB.out
            rw [if_pos h0] at h2
            rw [← h1, ← h2]
            exact batAt_enc _ hF
          clear hbo ho1 hbE hV heb HD HRCW
          have d0 : wE.cell? ⟨w.heap.size, 0, none⟩ = some (.int .i64 0) := cell_of_row _ _ 0 _ _ _ HDE.out.res
          have h0 : wE.frozen? ⟨w.heap.size, 0, none⟩ = false := frozen_of_row _ _ 0 _ _ HDE.out.res
          have d1 : wE.cell? ⟨w.heap.size, 1, none⟩ = some (.int .i64 0) := cell_of_row _ _ 1 _ _ _ HDE.out.res
          have h1 : wE.frozen? ⟨w.heap.size, 1, none⟩ = false := frozen_of_row _ _ 1 _ _ HDE.out.res
          have d2 : wE.cell? ⟨w.heap.size, 2, none⟩ = some (.int .i64 0) := cell_of_row _ _ 2 _ _ _ HDE.out.res
          have h2 : wE.frozen? ⟨w.heap.size, 2, none⟩ = false := frozen_of_row _ _ 2 _ _ HDE.out.res
          have d3 : wE.cell? ⟨w.heap.size, 3, none⟩ = some (.int .i64 0) := cell_of_row _ _ 3 _ _ _ HDE.out.res
          have h3 : wE.frozen? ⟨w.heap.size, 3, none⟩ = false := frozen_of_row _ _ 3 _ _ HDE.out.res
          have d4 : wE.cell? ⟨w.heap.size, 4, none⟩ = some (.int .i64 0) := cell_of_row _ _ 4 _ _ _ HDE.out.res
          have h4 : wE.frozen? ⟨w.heap.size, 4, none⟩ = false := frozen_of_row _ _ 4 _ _ HDE.out.res
          have d5 : wE.cell? ⟨w.heap.size, 5, none⟩ = some (.int .i64 0) := cell_of_row _ _ 5 _ _ _ HDE.out.res
          have h5 : wE.frozen? ⟨w.heap.size, 5, none⟩ = false := frozen_of_row _ _ 5 _ _ HDE.out.res
          have d6 : wE.cell? ⟨w.heap.size, 6, none⟩ = some (.slice none 0 0) := cell_of_row _ _ 6 _ _ _ HDE.out.res
          have h6 : wE.frozen? ⟨w.heap.size, 6, none⟩ = false := frozen_of_row _ _ 6 _ _ HDE.out.res
          by_cases hv : V = 0
          · by_cases hl : eb = l
            · have HY := Lib.hid (HYES.out hv hl)
              have hz1 : (V != 0) = false := by rw [hv]; rfl
              subst hl
              have hself : (eb == eb) = true := by simp
              have z0 := HDE.out.c0
              have z1 := HDE.out.c1
              have z2 := HDE.out.c2
              have z3 := HDE.out.c3
              have z4 := HDE.out.c4
              have z5 := HDE.out.c5
              have z6 := HDE.out.c6
              clear HNOT HYES HFI HEB
              go_wp2_with fail
              refine bodyPost_ret (v := .tuple #[.agg #[.int .i64 base, .int .i64 pid, .int .i64 (0), .int .i64 (0), .int .i64 (kind : Int), .int .i64 (sV u5), .slice A' (List.length L) c'], .int .i64 0]) (by simp [results, Try.results8, go_sem, d0, d1, d2, d3, d4, d5, d6]) rfl ?_
              refine HX1.out (⟨base, pid, 0, 0, kind, sV u5, L⟩ : Bat) A' c' _ HY.out HLC.out HCM.out ?_ ?_
              · refine Rcs.wider (B := wE.heap.size) ?_ (by simp)
                refine ⟨HRE.out.len, HRE.out.lies.far_ fun p hp i => ?_, HRE.out.ok⟩
                have hpb := HFA.out p hp
                have hpi := add_block p i
                have n0 : ¬ w.heap.size = (p.add i).block := by rw [hpi]; omega
                simp only [World.cell?_setCell_far, ne_eq, n0, not_false_eq_true]
              · repeat refine Below.setCell ?_ (by simp) _
                exact HDE.out.bel
            · have HN := Lib.hid (HNOT.out (fun q => hl q.2))
              have hz1 : (V != 0) = false := by rw [hv]; rfl
              have hne : (eb == l) = false := by rw [beq_eq_false_iff_ne]; exact hl
              clear HNOT HYES HFI HEB
              go_wp2_with fail
              refine bodyPost_ret (v := .tuple #[.agg #[.int .i64 0, .int .i64 0, .int .i64 0, .int .i64 0, .int .i64 0, .int .i64 0, .slice none 0 0], .int .i64 6]) (by simp [results, Try.results8, go_sem, d0, d1, d2, d3, d4, d5, d6]) rfl ?_
              refine HX0.out _ HN.out ?_
              repeat refine Below.setCell ?_ (by simp) _
              exact HDE.out.bel
          · have HN := Lib.hid (HNOT.out (fun q => hv q.1))
            have hz1 : (V != 0) = true := by rw [bne_iff_ne]; exact hv
            clear HNOT HYES HFI HEB s1 s2
            go_wp2_with fail
            refine bodyPost_ret (v := .tuple #[.agg #[.int .i64 0, .int .i64 0, .int .i64 0, .int .i64 0, .int .i64 0, .int .i64 0, .slice none 0 0], .int .i64 6]) (by simp [results, Try.results8, go_sem, d0, d1, d2, d3, d4, d5, d6]) rfl ?_
            refine HX0.out _ HN.out ?_
            repeat refine Below.setCell ?_ (by simp) _
            exact HDE.out.bel
      · have dt : decide (0 ≤ sV u5) = false := decide_eq_false ht
        have HBQ : Hid (∀ b, BatAt l b → b = ⟨base, pid, 0, 0, kind, sV u5, []⟩) := fun b hb => by
          obtain ⟨t1, t2, t3, t4, t5, t6, t7, t8⟩ := HCT.out b hb
          have := hb.fine.t1
          omega
        have HLL : Hid (([] : List Rec).length ≤ maxLen) := Nat.zero_le _
        have HLC : Hid (([] : List Rec).length ≤ 0) := Nat.le_refl _
        have HCM : Hid (0 ≤ maxLen) := Nat.zero_le _
        have HFA : Hid (∀ p : Addr, (none : Option Addr) = some p → w.heap.size < p.block) := fun p h => by cases h
        go_wp2_with fail
        have HRCW : Hid (Rcs (w6.setCell ⟨bx, 5, none⟩ (.int .i64 (sV u5))) (World.heap (w6.setCell ⟨bx, 5, none⟩ (.int .i64 (sV u5)))).size none ([] : List Rec).length []) := Rcs.nil_
        refine (HEN.out (0) (0) (sV u5) ([] : List Rec) _ none 0 (HLL.out) HRCW.out).mono ?_
        rintro e wE ⟨Ao, co, rfl, ho1, ho2, hbo, hbE⟩
        have HDE := Lib.hid (HD.out.below hbE)
        have HRE : Hid (Rcs wE wE.heap.size none (List.length ([] : List Rec)) ([] : List Rec)) := (HRCW.out.below hbE).wider hbE.size
        clear z0 z1 z2 z3 z4 z5 z6
        have HFI := Lib.hid (fine_iff (⟨base, pid, 0, 0, kind, sV u5, ([] : List Rec)⟩ : Bat))
        obtain ⟨V, hV⟩ : ∃ V, validE (⟨base, pid, 0, 0, kind, sV u5, ([] : List Rec)⟩ : Bat) = V := ⟨_, rfl⟩
        rw [hV] at hbo ho1 HFI ⊢
        obtain ⟨eb, heb⟩ : ∃ eb, (if V = 0 then encB (⟨base, pid, 0, 0, kind, sV u5, ([] : List Rec)⟩ : Bat) else []) = eb := ⟨_, rfl⟩
        have HEB := Lib.hid heb
        rw [heb] at hbo ho1 ⊢
        have s1 := hbo.str (P := Try.prog) Try.underlying25 Try.underlying5 Try.underlying9 co
        have s2 := (HBY.out wE HDE.out.bel).str (P := Try.prog) Try.underlying25 Try.underlying5 Try.underlying9 c
        have HNOT : Hid (¬ (V = 0 ∧ eb = l) → ∀ b, ¬ BatAt l b) := fun hn b hb => by
          have he := HBQ.out b hb
          have hF := hb.fine
          rw [he] at hF
          have h0 := HFI.out.2 hF
          refine hn ⟨h0, ?_⟩
          rw [← HEB.out, if_pos h0, ← he]
          exact (bat_strict hb).symm
        have HYES : Hid (V = 0 → eb = l → BatAt l (⟨base, pid, 0, 0, kind, sV u5, ([] : List Rec)⟩ : Bat)) := fun h0 h1 => by
          have hF := HFI.out.1 h0
          have h2 := HEB.out
          rw [if_pos h0] at h2
          rw [← h1, ← h2]
          exact batAt_enc _ hF
        clear hbo ho1 hbE hV heb HD HRCW
        have d0 : wE.cell? ⟨w.heap.size, 0, none⟩ = some (.int .i64 0) := cell_of_row _ _ 0 _ _ _ HDE.out.res
        have h0 : wE.frozen? ⟨w.heap.size, 0, none⟩ = false := frozen_of_row _ _ 0 _ _ HDE.out.res
        have d1 : wE.cell? ⟨w.heap.size, 1, none⟩ = some (.int .i64 0) := cell_of_row _ _ 1 _ _ _ HDE.out.res
        have h1 : wE.frozen? ⟨w.heap.size, 1, none⟩ = false := frozen_of_row _ _ 1 _ _ HDE.out.res
        have d2 : wE.cell? ⟨w.heap.size, 2, none⟩ = some (.int .i64 0) := cell_of_row _ _ 2 _ _ _ HDE.out.res
        have h2 : wE.frozen? ⟨w.heap.size, 2, none⟩ = false := frozen_of_row _ _ 2 _ _ HDE.out.res
        have d3 : wE.cell? ⟨w.heap.size, 3, none⟩ = some (.int .i64 0) := cell_of_row _ _ 3 _ _ _ HDE.out.res
        have h3 : wE.frozen? ⟨w.heap.size, 3, none⟩ = false := frozen_of_row _ _ 3 _ _ HDE.out.res
        have d4 : wE.cell? ⟨w.heap.size, 4, none⟩ = some (.int .i64 0) := cell_of_row _ _ 4 _ _ _ HDE.out.res
        have h4 : wE.frozen? ⟨w.heap.size, 4, none⟩ = false := frozen_of_row _ _ 4 _ _ HDE.out.res
        have d5 : wE.cell? ⟨w.heap.size, 5, none⟩ = some (.int .i64 0) := cell_of_row _ _ 5 _ _ _ HDE.out.res
        have h5 : wE.frozen? ⟨w.heap.size, 5, none⟩ = false := frozen_of_row _ _ 5 _ _ HDE.out.res
        have d6 : wE.cell? ⟨w.heap.size, 6, none⟩ = some (.slice none 0 0) := cell_of_row _ _ 6 _ _ _ HDE.out.res
        have h6 : wE.frozen? ⟨w.heap.size, 6, none⟩ = false := frozen_of_row _ _ 6 _ _ HDE.out.res
        by_cases hv : V = 0
        · by_cases hl : eb = l
          · have HY := Lib.hid (HYES.out hv hl)
            have hz1 : (V != 0) = false := by rw [hv]; rfl
            subst hl
            have hself : (eb == eb) = true := by simp
            have z0 := HDE.out.c0
            have z1 := HDE.out.c1
            have z2 := HDE.out.c2
            have z3 := HDE.out.c3
            have z4 := HDE.out.c4
            have z5 := HDE.out.c5
            have z6 := HDE.out.c6
            clear HNOT HYES HFI HEB
            go_wp2_with fail
            refine bodyPost_ret (v := .tuple #[.agg #[.int .i64 base, .int .i64 pid, .int .i64 (0), .int .i64 (0), .int .i64 (kind : Int), .int .i64 (sV u5), .slice none (List.length ([] : List Rec)) 0], .int .i64 0]) (by simp [results, Try.results8, go_sem, d0, d1, d2, d3, d4, d5, d6]) rfl ?_
            refine HX1.out (⟨base, pid, 0, 0, kind, sV u5, ([] : List Rec)⟩ : Bat) none 0 _ HY.out HLC.out HCM.out ?_ ?_
            · refine Rcs.wider (B := wE.heap.size) ?_ (by simp)
              refine ⟨HRE.out.len, HRE.out.lies.far_ fun p hp i => ?_, HRE.out.ok⟩
              have hpb := HFA.out p hp
              have hpi := add_block p i
              have n0 : ¬ w.heap.size = (p.add i).block := by rw [hpi]; omega
              simp only [World.cell?_setCell_far, ne_eq, n0, not_false_eq_true]
            · repeat refine Below.setCell ?_ (by simp) _
              exact HDE.out.bel
          · have HN := Lib.hid (HNOT.out (fun q => hl q.2))
            have hz1 : (V != 0) = false := by rw [hv]; rfl
            have hne : (eb == l) = false := by rw [beq_eq_false_iff_ne]; exact hl
            clear HNOT HYES HFI HEB
            go_wp2_with fail
            refine bodyPost_ret (v := .tuple #[.agg #[.int .i64 0, .int .i64 0, .int .i64 0, .int .i64 0, .int .i64 0, .int .i64 0, .slice none 0 0], .int .i64 6]) (by simp [results, Try.results8, go_sem, d0, d1, d2, d3, d4, d5, d6]) rfl ?_
            refine HX0.out _ HN.out ?_
            repeat refine Below.setCell ?_ (by simp) _
            exact HDE.out.bel
        · have HN := Lib.hid (HNOT.out (fun q => hv q.1))
          have hz1 : (V != 0) = true := by rw [bne_iff_ne]; exact hv
          clear HNOT HYES HFI HEB s1 s2
          go_wp2_with fail
          refine bodyPost_ret (v := .tuple #[.agg #[.int .i64 0, .int .i64 0, .int .i64 0, .int .i64 0, .int .i64 0, .int .i64 0, .slice none 0 0], .int .i64 6]) (by simp [results, Try.results8, go_sem, d0, d1, d2, d3, d4, d5, d6]) rfl ?_
          refine HX0.out _ HN.out ?_
          repeat refine Below.setCell ?_ (by simp) _
          exact HDE.out.bel
    · have dr : ((r7 : Int) == 0) = false := by rw [beq_eq_false_iff_ne]; omega
      have HBQ : Hid (∀ b, BatAt l b → b = ⟨base, pid, 0, 0, kind, sV u5, []⟩) := fun b hb => by
        obtain ⟨t1, t2, t3, t4, t5, t6, t7, t8⟩ := HCT.out b hb
        exact absurd t7 hr7
      have HLL : Hid (([] : List Rec).length ≤ maxLen) := Nat.zero_le _
      have HLC : Hid (([] : List Rec).length ≤ 0) := Nat.le_refl _
      have HCM : Hid (0 ≤ maxLen) := Nat.zero_le _
      have HFA : Hid (∀ p : Addr, (none : Option Addr) = some p → w.heap.size < p.block) := fun p h => by cases h
      go_wp2_with fail
      have HRCW : Hid (Rcs (w6.setCell ⟨bx, 5, none⟩ (.int .i64 (sV u5))) (World.heap (w6.setCell ⟨bx, 5, none⟩ (.int .i64 (sV u5)))).size none ([] : List Rec).length []) := Rcs.nil_
      refine (HEN.out (0) (0) (sV u5) ([] : List Rec) _ none 0 (HLL.out) HRCW.out).mono ?_
      rintro e wE ⟨Ao, co, rfl, ho1, ho2, hbo, hbE⟩
      have HDE := Lib.hid (HD.out.below hbE)
      have HRE : Hid (Rcs wE wE.heap.size none (List.length ([] : List Rec)) ([] : List Rec)) := (HRCW.out.below hbE).wider hbE.size
      clear z0 z1 z2 z3 z4 z5 z6
      have HFI := Lib.hid (fine_iff (⟨base, pid, 0, 0, kind, sV u5, ([] : List Rec)⟩ : Bat))
      obtain ⟨V, hV⟩ : ∃ V, validE (⟨base, pid, 0, 0, kind, sV u5, ([] : List Rec)⟩ : Bat) = V := ⟨_, rfl⟩
      rw [hV] at hbo ho1 HFI ⊢
      obtain ⟨eb, heb⟩ : ∃ eb, (if V = 0 then encB (⟨base, pid, 0, 0, kind, sV u5, ([] : List Rec)⟩ : Bat) else []) = eb := ⟨_, rfl⟩
      have HEB := Lib.hid heb
      rw [heb] at hbo ho1 ⊢
      have s1 := hbo.str (P := Try.prog) Try.underlying25 Try.underlying5 Try.underlying9 co
      have s2 := (HBY.out wE HDE.out.bel).str (P := Try.prog) Try.underlying25 Try.underlying5 Try.underlying9 c
      have HNOT : Hid (¬ (V = 0 ∧ eb = l) → ∀ b, ¬ BatAt l b) := fun hn b hb => by
        have he := HBQ.out b hb
        have hF := hb.fine
        rw [he] at hF
        have h0 := HFI.out.2 hF
        refine hn ⟨h0, ?_⟩
        rw [← HEB.out, if_pos h0, ← he]
        exact (bat_strict hb).symm
      have HYES : Hid (V = 0 → eb = l → BatAt l (⟨base, pid, 0, 0, kind, sV u5, ([] : List Rec)⟩ : Bat)) := fun h0 h1 => by
        have hF := HFI.out.1 h0
        have h2 := HEB.out
        rw [if_pos h0] at h2
        rw [← h1, ← h2]
        exact batAt_enc _ hF
      clear hbo ho1 hbE hV heb HD HRCW
      have d0 : wE.cell? ⟨w.heap.size, 0, none⟩ = some (.int .i64 0) := cell_of_row _ _ 0 _ _ _ HDE.out.res
      have h0 : wE.frozen? ⟨w.heap.size, 0, none⟩ = false := frozen_of_row _ _ 0 _ _ HDE.out.res
      have d1 : wE.cell? ⟨w.heap.size, 1, none⟩ = some (.int .i64 0) := cell_of_row _ _ 1 _ _ _ HDE.out.res
      have h1 : wE.frozen? ⟨w.heap.size, 1, none⟩ = false := frozen_of_row _ _ 1 _ _ HDE.out.res
      have d2 : wE.cell? ⟨w.heap.size, 2, none⟩ = some (.int .i64 0) := cell_of_row _ _ 2 _ _ _ HDE.out.res
      have h2 : wE.frozen? ⟨w.heap.size, 2, none⟩ = false := frozen_of_row _ _ 2 _ _ HDE.out.res
      have d3 : wE.cell? ⟨w.heap.size, 3, none⟩ = some (.int .i64 0) := cell_of_row _ _ 3 _ _ _ HDE.out.res
      have h3 : wE.frozen? ⟨w.heap.size, 3, none⟩ = false := frozen_of_row _ _ 3 _ _ HDE.out.res
      have d4 : wE.cell? ⟨w.heap.size, 4, none⟩ = some (.int .i64 0) := cell_of_row _ _ 4 _ _ _ HDE.out.res
      have h4 : wE.frozen? ⟨w.heap.size, 4, none⟩ = false := frozen_of_row _ _ 4 _ _ HDE.out.res
      have d5 : wE.cell? ⟨w.heap.size, 5, none⟩ = some (.int .i64 0) := cell_of_row _ _ 5 _ _ _ HDE.out.res
      have h5 : wE.frozen? ⟨w.heap.size, 5, none⟩ = false := frozen_of_row _ _ 5 _ _ HDE.out.res
      have d6 : wE.cell? ⟨w.heap.size, 6, none⟩ = some (.slice none 0 0) := cell_of_row _ _ 6 _ _ _ HDE.out.res
      have h6 : wE.frozen? ⟨w.heap.size, 6, none⟩ = false := frozen_of_row _ _ 6 _ _ HDE.out.res
      by_cases hv : V = 0
      · by_cases hl : eb = l
        · have HY := Lib.hid (HYES.out hv hl)
          have hz1 : (V != 0) = false := by rw [hv]; rfl
          subst hl
          have hself : (eb == eb) = true := by simp
          have z0 := HDE.out.c0
          have z1 := HDE.out.c1
          have z2 := HDE.out.c2
          have z3 := HDE.out.c3
          have z4 := HDE.out.c4
          have z5 := HDE.out.c5
          have z6 := HDE.out.c6
          clear HNOT HYES HFI HEB
          go_wp2_with fail
          refine bodyPost_ret (v := .tuple #[.agg #[.int .i64 base, .int .i64 pid, .int .i64 (0), .int .i64 (0), .int .i64 (kind : Int), .int .i64 (sV u5), .slice none (List.length ([] : List Rec)) 0], .int .i64 0]) (by simp [results, Try.results8, go_sem, d0, d1, d2, d3, d4, d5, d6]) rfl ?_
          refine HX1.out (⟨base, pid, 0, 0, kind, sV u5, ([] : List Rec)⟩ : Bat) none 0 _ HY.out HLC.out HCM.out ?_ ?_
          · refine Rcs.wider (B := wE.heap.size) ?_ (by simp)
            refine ⟨HRE.out.len, HRE.out.lies.far_ fun p hp i => ?_, HRE.out.ok⟩
            have hpb := HFA.out p hp
            have hpi := add_block p i
            have n0 : ¬ w.heap.size = (p.add i).block := by rw [hpi]; omega
            simp only [World.cell?_setCell_far, ne_eq, n0, not_false_eq_true]
          · repeat refine Below.setCell ?_ (by simp) _
            exact HDE.out.bel
        · have HN := Lib.hid (HNOT.out (fun q => hl q.2))
          have hz1 : (V != 0) = false := by rw [hv]; rfl
          have hne : (eb == l) = false := by rw [beq_eq_false_iff_ne]; exact hl
          clear HNOT HYES HFI HEB
          go_wp2_with fail
          refine bodyPost_ret (v := .tuple #[.agg #[.int .i64 0, .int .i64 0, .int .i64 0, .int .i64 0, .int .i64 0, .int .i64 0, .slice none 0 0], .int .i64 6]) (by simp [results, Try.results8, go_sem, d0, d1, d2, d3, d4, d5, d6]) rfl ?_
          refine HX0.out _ HN.out ?_
          repeat refine Below.setCell ?_ (by simp) _
          exact HDE.out.bel
      · have HN := Lib.hid (HNOT.out (fun q => hv q.1))
        have hz1 : (V != 0) = true := by rw [bne_iff_ne]; exact hv
        clear HNOT HYES HFI HEB s1 s2
        go_wp2_with fail
        refine bodyPost_ret (v := .tuple #[.agg #[.int .i64 0, .int .i64 0, .int .i64 0, .int .i64 0, .int .i64 0, .int .i64 0, .slice none 0 0], .int .i64 6]) (by simp [results, Try.results8, go_sem, d0, d1, d2, d3, d4, d5, d6]) rfl ?_
        refine HX0.out _ HN.out ?_
        repeat refine Below.setCell ?_ (by simp) _
        exact HDE.out.bel
end Go.Proofs.Ytniopekkfnkipaa
namespace Go.Proofs.Ytniopekkfnkipaa
open Go.RowKit
set_option linter.unusedVariables false
set_option linter.unusedSimpArgs false

theorem rencode_own (b : Bat) (A : Option Addr) (c B : Nat) (w : World) (hL : Rcs w B A b.L.length b.L) (hB : B ≤ w.heap.size) (hl : b.L.length ≤ maxLen) :
    Calls Try.prog 4 #[.agg (b.cells A c)] w fun e w' => ∃ v lr er, e = .returned (.tuple #[v, .int .i64 er]) ∧ Own w' w.heap.size v lr ∧ (lr = [] ∨ BatAt lr b) ∧ Below w.heap.size w w' := by
  by_cases hv : validE b = 0
  · have hF := (fine_iff b).1 hv
    refine (rencode_yes b A c B w hL hB hF).mono ?_
    rintro e w' ⟨v, rfl, ho, hb⟩
    exact ⟨v, encB b, 0, rfl, ho, .inr (batAt_enc b hF), hb⟩
  · refine (rencode_no b A c B w hL hB hl hv).mono ?_
    rintro e w' ⟨rfl, hb⟩
    exact ⟨_, [], _, rfl, World.ownsRow_nil _ _ _ _, .inl rfl, hb⟩
theorem batAt_size {l : List UInt8} {b : Bat} (h : BatAt l b) : l.length ≤ 1048576 := by
  have hF := h.fine
  have h1 := rowsS_each b.L b.time hF.recs b.L.length (Nat.le_refl _)
  have h2 : (headOf b).length ≤ 80 := headS_len _ _ _ _ _ _ _
  have h3 := (Wn.enc_len b.L.length).2
  have h4 := hF.len
  rw [bat_strict h]
  unfold encB
  split
  · omega
  · rw [List.length_append, List.length_append]
    omega
end Go.Proofs.Ytniopekkfnkipaa
