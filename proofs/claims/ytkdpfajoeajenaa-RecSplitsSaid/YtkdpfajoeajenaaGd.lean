/-
  Batches each of which stands to the one ahead as a part does: where the last of them ends.
  The parts of a batch, as data.
  A slice of batches each of which has records in memory of its own, apart from all others.
-/
import Derived.Test.YtkdpfajoeajenaaRecMg
import Derived.Test.YtkdpfajoeajenaaRecPo
import Derived.Test.YtkdpfajoeajenaaGb
import Derived.Test.YtkdpfajoeajenaaGa
import Derived.Test.YtkdpfajoeajenaaPkC
namespace Go.Proofs.Ytkdpfajoeajenaa
open Go.RowKit
set_option linter.unusedVariables false
set_option linter.unusedSimpArgs false

theorem fol_iff {a b : Bat} : folB a b = true ↔ markB a = false ∧ ownP a b ∧ b.base = nextI a ∧ (a.pid = 0 ∨ b.seq = a.seq + (a.L.length : Int)) := by
  unfold folB
  simp only [Bool.and_eq_true, Bool.or_eq_true, Bool.not_eq_true', decide_eq_true_eq]
  constructor
  · rintro ⟨⟨⟨h1, h2⟩, h3⟩, h4⟩; exact ⟨h1, h2, h3, h4⟩
  · rintro ⟨h1, h2, h3, h4⟩; exact ⟨⟨⟨h1, h2⟩, h3⟩, h4⟩
theorem next_len {a : Bat} (hv : validE a = 0) (hm : markB a = false) : nextI a = a.base + (a.L.length : Int) := by
  unfold nextI spanI
  rw [if_pos hv, hm]; rfl
/-- where the first q batches end, if they are parts of one -/
structure Chn (l : List Bat) (q : Nat) : Prop where
  mark : ∀ j, j < q → markB (l.getD j zB) = false
  fol : ∀ j, j + 1 < q → folB (l.getD j zB) (l.getD (j + 1) zB) = true
structure Pos (l : List Bat) (q : Nat) : Prop where
  own : ownP (l.getD 0 zB) (l.getD (q - 1) zB)
  base : (l.getD (q - 1) zB).base + ((l.getD (q - 1) zB).L.length : Int) = (l.getD 0 zB).base + ((catL (l.take q)).length : Int)
  seq : (l.getD 0 zB).pid ≠ 0 → (l.getD (q - 1) zB).seq + ((l.getD (q - 1) zB).L.length : Int) = (l.getD 0 zB).seq + ((catL (l.take q)).length : Int)
theorem catL_one (l : List Bat) (h : 0 < l.length) : catL (l.take 1) = (l.getD 0 zB).L := by
  have := catL_take l 0 h
  simpa [catL] using this
theorem chain_pos (l : List Bat) (hv : ∀ j, j < l.length → validE (l.getD j zB) = 0) : ∀ q, q + 1 ≤ l.length → Chn l (q + 1) → Pos l (q + 1) := by
  intro q
  induction q with
  | zero =>
    intro hq hc
    refine ⟨⟨rfl, rfl, rfl, rfl⟩, ?_, fun _ => ?_⟩
    · show (l.getD 0 zB).base + _ = _; rw [catL_one l (by omega)]
    · show (l.getD 0 zB).seq + _ = _; rw [catL_one l (by omega)]
  | succ q ih =>
    intro hq hc
    have hp := ih (by omega) ⟨fun j hj => hc.mark j (by omega), fun j hj => hc.fol j (by omega)⟩
    obtain ⟨f1, f2, f3, f4⟩ := fol_iff.1 (hc.fol q (by omega))
    have hn := next_len (hv q (by omega)) f1
    have h1 := hp.own
    have h2 := hp.base
    have h3 := hp.seq
    simp only [Nat.add_sub_cancel] at h1 h2 h3 ⊢
    have hct := catL_take l (q + 1) (by omega)
    refine ⟨?_, ?_, fun hpid => ?_⟩
    · simp only [Nat.add_sub_cancel]
      exact ⟨h1.1.trans f2.1, h1.2.1.trans f2.2.1, h1.2.2.1.trans f2.2.2.1, h1.2.2.2.trans f2.2.2.2⟩
    · simp only [Nat.add_sub_cancel]
      rw [hct, List.length_append, f3, hn]
      omega
    · simp only [Nat.add_sub_cancel]
      rw [hct, List.length_append]
      have h4 := h3 hpid
      rcases f4 with f4 | f4
      · exact absurd (h1.2.1.trans f4) hpid
      · rw [f4]; omega
/-- what the reference asks of the next batch is that it stands so to the one ahead -/
theorem fol_all (l : List Bat) (hv : ∀ j, j < l.length → validE (l.getD j zB) = 0) (q : Nat) (hq : q + 1 < l.length) (hc : Chn l (q + 1)) :
    folB (l.getD q zB) (l.getD (q + 1) zB) = true ↔ (l.getD (q + 1) zB).kind = (l.getD 0 zB).kind ∧ (l.getD (q + 1) zB).pid = (l.getD 0 zB).pid ∧ (l.getD (q + 1) zB).epoch = (l.getD 0 zB).epoch ∧ (l.getD (q + 1) zB).time = (l.getD 0 zB).time ∧
      (l.getD (q + 1) zB).base = (l.getD 0 zB).base + ((catL (l.take (q + 1))).length : Int) ∧ (0 < (l.getD (q + 1) zB).pid → (l.getD (q + 1) zB).seq = (l.getD 0 zB).seq + ((catL (l.take (q + 1))).length : Int)) := by
  have hp := chain_pos l hv q (by omega) hc
  have hm := hc.mark q (by omega)
  have hn := next_len (hv q (by omega)) hm
  have hF := (fine_iff _).1 (hv (q + 1) hq)
  have h1 := hp.own
  have h2 := hp.base
  have h3 := hp.seq
  simp only [Nat.add_sub_cancel] at h1 h2 h3
  rw [fol_iff]
  constructor
  · rintro ⟨_, f2, f3, f4⟩
    refine ⟨(h1.1.trans f2.1).symm, (h1.2.1.trans f2.2.1).symm, (h1.2.2.1.trans f2.2.2.1).symm, (h1.2.2.2.trans f2.2.2.2).symm, by rw [f3, hn, h2], fun hpos => ?_⟩
    have e1 := h1.2.1.trans f2.2.1
    rcases f4 with f4 | f4
    · have := f2.2.1; omega
    · rw [f4]; exact h3 (by omega)
  · rintro ⟨g1, g2, g3, g4, g5, g6⟩
    refine ⟨hm, ⟨h1.1.symm.trans g1.symm, h1.2.1.symm.trans g2.symm, h1.2.2.1.symm.trans g3.symm, h1.2.2.2.symm.trans g4.symm⟩, by rw [g5, hn, h2], ?_⟩
    have hp1 := hF.p1
    by_cases hz : (l.getD q zB).pid = 0
    · exact .inl hz
    · right
      have e := h1.2.1
      rw [g6 (by omega)]; exact (h3 (by omega)).symm
/-- a mark among them: they are no parts of one -/
theorem mark_no (l : List Bat) (q : Nat) (hq : q < l.length) (h2 : 2 ≤ l.length) (hm : markB (l.getD q zB) = true) (hb : ∀ j, j < q → markB (l.getD j zB) = false) : chainB l = false := by
  cases q with
  | zero =>
    refine chain_no l 0 (by omega) ?_
    cases hf : folB (l.getD 0 zB) (l.getD (0 + 1) zB) with
    | false => rfl
    | true => have := (fol_iff.1 hf).1; rw [hm] at this; cases this
  | succ q =>
    refine chain_no l q (by omega) ?_
    cases hf : folB (l.getD q zB) (l.getD (q + 1) zB) with
    | false => rfl
    | true =>
      have h1 := (fol_iff.1 hf).2.1.1
      have h3 := hb q (by omega)
      unfold markB at hm h3
      rw [← h1, h3] at hm
      cases hm
end Go.Proofs.Ytkdpfajoeajenaa
namespace Go.Proofs.Ytkdpfajoeajenaa
open Go.RowKit
set_option linter.unusedVariables false
set_option linter.unusedSimpArgs false

def chunk (b : Bat) (m k : Nat) : Bat := partB b (k * m) (min (k * m + m) b.L.length)
def cnt (b : Bat) (m : Nat) : Nat := (b.L.length + m - 1) / m
def chunks (b : Bat) (m : Nat) : List Bat := (List.range (cnt b m)).map (chunk b m)
def splitB (b : Bat) (n : Int) : List Bat := if validE b = 0 ∧ 1 ≤ n then (if markB b = true then [b] else chunks b n.toNat) else []
theorem cnt_iff (b : Bat) (m k : Nat) (hm : 1 ≤ m) : k < cnt b m ↔ k * m < b.L.length := by
  unfold cnt
  rw [Nat.lt_iff_add_one_le, Nat.le_div_iff_mul_le (by omega), Nat.succ_mul]
  omega
theorem chunks_len (b : Bat) (m : Nat) : (chunks b m).length = cnt b m := by unfold chunks; simp
theorem chunks_get (b : Bat) (m k : Nat) (h : k < cnt b m) : (chunks b m).getD k zB = chunk b m k := by
  unfold chunks
  rw [List.getD_eq_getElem?_getD, List.getElem?_map, List.getElem?_range h]; rfl
theorem cnt_one (b : Bat) (m : Nat) (h0 : 0 < b.L.length) (h : b.L.length ≤ m) : cnt b m = 1 := by
  have h1 := (cnt_iff b m 0 (by omega)).2 (by omega)
  have h2 : ¬ 1 < cnt b m := fun e => by have := (cnt_iff b m 1 (by omega)).1 e; omega
  omega
theorem chunks_cap (b : Bat) (m : Nat) (h0 : 0 < b.L.length) (h : b.L.length ≤ 64) (hm : 64 < m) : chunks b m = chunks b 64 := by
  unfold chunks
  rw [cnt_one b m h0 (by omega), cnt_one b 64 h0 h]
  show [chunk b m 0] = [chunk b 64 0]
  unfold chunk
  rw [show min (0 * m + m) b.L.length = b.L.length by omega, show min (0 * 64 + 64) b.L.length = b.L.length by omega]
  simp
/-- all the steps that a walk over the parts takes -/
theorem step_bound (b : Bat) (m k : Nat) (h : b.L.length ≤ 64) (hk : k * m < b.L.length) : (k = 0 ∧ k * m = 0) ∨ k * m + m ≤ 128 := by
  rcases Nat.eq_zero_or_pos k with e | e
  · left; subst e; simp
  · right
    have : 1 * m ≤ k * m := Nat.mul_le_mul_right m e
    omega
section
variable {b : Bat} {m : Nat}
theorem form_fine (hF : Fine b) (hm : markB b = false) : (b.pid = 0 → b.kind = 0 ∧ b.epoch = 0 ∧ b.seq = 0) ∧ 0 < b.L.length := by
  have h1 := hF.form
  unfold formB at h1
  split at h1
  · cases h1
  · rename_i h2
    rw [hm] at h1
    simp only [Bool.false_eq_true, if_false, decide_eq_true_iff] at h1
    refine ⟨fun hp => ?_, h1⟩
    simp only [hp, beq_self_eq_true, Bool.true_and, Bool.or_eq_true, bne_iff_ne, ne_eq, not_or, Decidable.not_not] at h2
    exact ⟨h2.1.1, h2.1.2, h2.2⟩
theorem cnt_fine (hF : Fine b) (hm : markB b = false) : b.base + (b.L.length : Int) - 1 ≤ 1099511627776 ∧ (b.pid ≠ 0 → b.seq + (b.L.length : Int) - 1 ≤ 2147483647) := by
  have h1 := hF.cnt
  unfold countE spanI at h1
  rw [hm] at h1
  simp only [Bool.false_eq_true, if_false] at h1
  by_cases h2 : (decide (1099511627776 < b.base + ((b.L.length : Int) - 1)) || ((b.pid != 0) && decide (2147483647 < b.seq + ((b.L.length : Int) - 1)))) = true
  · rw [if_pos h2] at h1; cases h1
  · simp only [Bool.or_eq_true, Bool.and_eq_true, decide_eq_true_iff, bne_iff_ne, ne_eq, not_or, not_and] at h2
    exact ⟨by omega, fun hp => by have := h2.2 hp; omega⟩
theorem chunk_L (k : Nat) : (chunk b m k).L = (b.L.take (k * m + m)).drop (k * m) := by
  show (b.L.take (min (k * m + m) b.L.length)).drop (k * m) = _
  congr 1
  rcases Nat.le_total (k * m + m) b.L.length with h | h
  · rw [Nat.min_eq_left h]
  · rw [Nat.min_eq_right h, List.take_length, List.take_of_length_le h]
theorem chunk_len (k : Nat) : (chunk b m k).L.length = min (k * m + m) b.L.length - k * m := by
  rw [chunk_L, List.length_drop, List.length_take]
/-- a part with any records that may be is a batch that may be -/
theorem part_valid (hF : Fine b) (hm : markB b = false) (i : Nat) (R : List Rec) (h0 : 0 < R.length) (hi : i + R.length ≤ b.L.length) (hR : ∀ r ∈ R, recE r = 0) : validE ⟨b.base + (i : Int), b.pid, b.epoch, if b.pid = 0 then b.seq else b.seq + (i : Int), b.kind, b.time, R⟩ = 0 := by
  obtain ⟨f1, f2⟩ := form_fine hF hm
  obtain ⟨g1, g2⟩ := cnt_fine hF hm
  have l64 := hF.len
  have hb1 := hF.b1
  have hs1 := hF.s1
  have hs2 := hF.s2
  have hmk : markB ⟨b.base + (i : Int), b.pid, b.epoch, if b.pid = 0 then b.seq else b.seq + (i : Int), b.kind, b.time, R⟩ = false := hm
  refine (fine_iff _).2 ⟨hF.k1, hF.k2, ?_, ?_, hF.p1, hF.p2, hF.e1, hF.e2, ?_, ?_, hF.t1, hF.t2, ?_, ?_, hR, ?_⟩
  · show 0 ≤ b.base + (i : Int); omega
  · show b.base + (i : Int) ≤ _; omega
  · show 0 ≤ (if b.pid = 0 then b.seq else b.seq + (i : Int)); split <;> omega
  · show (if b.pid = 0 then b.seq else b.seq + (i : Int)) ≤ _
    split
    · omega
    · rename_i h; have := g2 h; omega
  · unfold formB
    rw [hmk]
    by_cases hp : b.pid = 0
    · obtain ⟨k1, k2, k3⟩ := f1 hp
      rw [if_neg (by simp [hp, k1, k2, k3])]
      simp [h0]
    · rw [if_neg (by simp [hp])]
      simp [h0]
  · show R.length ≤ 64; omega
  · unfold countE spanI
    rw [hmk]
    show (if _ then _ else _) = _
    rw [if_neg]
    simp only [Bool.false_eq_true, if_false, Bool.or_eq_true, Bool.and_eq_true, decide_eq_true_iff, bne_iff_ne, ne_eq, not_or, not_and]
    refine ⟨by omega, fun hp => ?_⟩
    rw [if_neg hp]
    have := g2 hp
    omega
theorem chunk_valid (hF : Fine b) (hm : markB b = false) (h1 : 1 ≤ m) (k : Nat) (hk : k * m < b.L.length) : validE (chunk b m k) = 0 := by
  have hl := chunk_len (b := b) (m := m) k
  have e : chunk b m k = ⟨b.base + ((k * m : Nat) : Int), b.pid, b.epoch, if b.pid = 0 then b.seq else b.seq + ((k * m : Nat) : Int), b.kind, b.time, (chunk b m k).L⟩ := rfl
  rw [e]
  refine part_valid hF hm (k * m) _ (by omega) (by omega) fun r hr => ?_
  rw [chunk_L] at hr
  exact hF.recs r (List.mem_of_mem_take (List.mem_of_mem_drop hr))
theorem chunk_next (hF : Fine b) (hm : markB b = false) (h1 : 1 ≤ m) (k : Nat) (hk : (k + 1) * m < b.L.length) : nextI (chunk b m k) = (chunk b m (k + 1)).base ∧ (chunk b m k).L.length = m := by
  have hk' : (k + 1) * m = k * m + m := Nat.succ_mul k m
  have hl := chunk_len (b := b) (m := m) k
  have hmk : markB (chunk b m k) = false := hm
  have hlm : (chunk b m k).L.length = m := by omega
  refine ⟨?_, hlm⟩
  unfold nextI spanI
  rw [if_pos (chunk_valid hF hm h1 k (by omega)), hmk]
  show b.base + ((k * m : Nat) : Int) + (((chunk b m k).L.length : Nat) : Int) = b.base + (((k + 1) * m : Nat) : Int)
  rw [hlm, hk']
  omega
theorem chunks_cat (h1 : 1 ≤ m) : ∀ k, k ≤ cnt b m → catL ((chunks b m).take k) = b.L.take (k * m) := by
  intro k
  induction k with
  | zero => intro _; simp [catL]
  | succ k ih =>
    intro hk
    rw [catL_take _ _ (by rw [chunks_len]; omega), ih (by omega), chunks_get _ _ _ (by omega), chunk_L, Nat.succ_mul]
    have e := List.take_append_drop (k * m) (b.L.take (k * m + m))
    rw [List.take_take, Nat.min_eq_left (by omega)] at e
    exact e
theorem chunks_all (h1 : 1 ≤ m) : catL (chunks b m) = b.L := by
  have h := chunks_cat (b := b) h1 (cnt b m) (Nat.le_refl _)
  have h2 : ¬ cnt b m < cnt b m := by omega
  rw [cnt_iff b m _ h1] at h2
  rw [List.take_of_length_le (by rw [chunks_len]; exact Nat.le_refl _), List.take_of_length_le (by omega)] at h
  exact h
theorem chunks_flat (hm : markB b = false) (h1 : 1 ≤ m) : ∀ k, k ≤ cnt b m → flatA ((chunks b m).take k) = (offsL b.base b.L).take (k * m) := by
  have off : ∀ (L : List Rec) (o : Int) (i j : Nat), (offsL o L).take (i + j) = (offsL o L).take i ++ offsL (o + (i : Int)) ((L.take (i + j)).drop i) := by
    intro L
    induction L with
    | nil => intro o i j; simp [offsL]
    | cons r L ih =>
      intro o i j
      cases i with
      | zero =>
        simp only [Nat.zero_add, List.take_zero, List.nil_append, List.drop_zero]
        have tk : ∀ (L : List Rec) (o : Int) (j : Nat), (offsL o L).take j = offsL o (L.take j) := by
          intro L
          induction L with
          | nil => intro o j; simp [offsL]
          | cons r L ih =>
            intro o j
            cases j with
            | zero => rfl
            | succ j => show atOf o r :: (offsL (o + 1) L).take j = atOf o r :: offsL (o + 1) (L.take j); rw [ih]
        rw [tk]
        simp
      | succ i =>
        show (atOf o r :: offsL (o + 1) L).take (i + 1 + j) = _
        rw [show i + 1 + j = (i + j) + 1 by omega]
        show atOf o r :: (offsL (o + 1) L).take (i + j) = atOf o r :: (offsL (o + 1) L).take i ++ _
        rw [ih (o + 1) i j]
        simp only [List.cons_append, List.take_succ_cons, List.drop_succ_cons]
        rw [show o + 1 + (i : Int) = o + ((i + 1 : Nat) : Int) by omega]
  intro k
  induction k with
  | zero => intro _; simp [flatA]
  | succ k ih =>
    intro hk
    have hmk : markB (chunk b m k) = false := hm
    rw [flatA_take _ _ (by rw [chunks_len]; omega), ih (by omega), chunks_get _ _ _ (by omega), Nat.succ_mul, off]
    congr 1
    unfold flatC
    rw [hmk]
    show offsL (b.base + ((k * m : Nat) : Int)) (chunk b m k).L = _
    rw [chunk_L]
theorem chunks_flat_all (hm : markB b = false) (h1 : 1 ≤ m) : flatA (chunks b m) = flatC b := by
  have h := chunks_flat hm h1 (cnt b m) (Nat.le_refl _)
  have h2 : ¬ cnt b m < cnt b m := by omega
  rw [cnt_iff b m _ h1] at h2
  rw [List.take_of_length_le (by rw [chunks_len]; exact Nat.le_refl _), List.take_of_length_le (by rw [offsL_len]; omega)] at h
  unfold flatC
  rw [hm, h]; rfl
/-- merged again they are the batch -/
theorem chunks_merge (hF : Fine b) (hm : markB b = false) (h1 : 1 ≤ m) : mergeE (chunks b m) = 0 ∧ mergeB (chunks b m) = b := by
  obtain ⟨f1, f2⟩ := form_fine hF hm
  have hc : 0 < cnt b m := (cnt_iff b m 0 h1).2 (by omega)
  have hE : mergeE (chunks b m) = 0 := by
    unfold mergeE
    rw [if_neg (by rw [chunks_len]; omega), if_neg, if_neg, if_neg]
    · rw [chunks_all h1]; have := hF.len; omega
    · rw [chain_yes]
      · simp
      · intro k hk
        rw [chunks_len] at hk
        rw [chunks_get _ _ _ (by omega), chunks_get _ _ _ hk, fol_iff]
        obtain ⟨n1, n2⟩ := chunk_next hF hm h1 k ((cnt_iff b m (k + 1) h1).1 hk)
        refine ⟨hm, ⟨rfl, rfl, rfl, rfl⟩, n1.symm, ?_⟩
        by_cases hp : b.pid = 0
        · exact .inl hp
        · right
          show (if b.pid = 0 then b.seq else b.seq + (((k + 1) * m : Nat) : Int)) = (if b.pid = 0 then b.seq else b.seq + ((k * m : Nat) : Int)) + (((chunk b m k).L.length : Nat) : Int)
          rw [if_neg hp, if_neg hp, n2, Nat.succ_mul]
          omega
    · simp only [ne_eq, Decidable.not_not]
      refine badE_all _ fun j hj => ?_
      rw [chunks_len] at hj
      rw [chunks_get _ _ _ hj]
      exact chunk_valid hF hm h1 j ((cnt_iff b m j h1).1 hj)
  refine ⟨hE, ?_⟩
  unfold mergeB
  rw [if_pos hE, chunks_all h1, chunks_get _ _ _ hc]
  unfold chunk partB
  obtain ⟨base, pid, epoch, seq, kind, time, L⟩ := b
  simp only [Nat.zero_mul, Int.natCast_zero, Int.add_zero, ite_self]
end
end Go.Proofs.Ytkdpfajoeajenaa
namespace Go.Proofs.Ytkdpfajoeajenaa
open Go.RowKit
set_option linter.unusedVariables false
set_option linter.unusedSimpArgs false

theorem zero_batQ : (Try.prog.info? 24).map (fun i => (i.zero, i.size, i.bytes)) = some (some (.agg #[.int .i64 0, .int .i64 0, .int .i64 0, .int .i64 0, .int .i64 0, .int .i64 0, .slice none 0 0]), 7, 72) := by kernel_rfl
theorem Ml.nil_q {w wr : World} (h : Below w.heap.size w wr) : Ml w wr (.slice none 0 0) [] := ⟨World.ownsRow_nil _ _ _ _, (fun x h => by cases h), (fun x h => by cases h), h⟩
def BA.sl (x : BA) : Value := .slice x.A x.b.L.length x.c
structure Pt (w wr : World) (v : Value) (M : List BA) (F : Nat → List Rec) : Prop where
  own : wr.ownsRow w.heap.size 24 7 v M.length (bcells M)
  rows : ∀ j, j < M.length → wr.ownsRow w.heap.size 38 4 (M.getD j default).sl (M.getD j default).b.L.length (rcells (F j))
  len : ∀ j, j < M.length → (F j).length = (M.getD j default).b.L.length
  ok : ∀ j, j < M.length → ∀ r ∈ F j, i64_ r.time
  far : ∀ j, j < M.length → ∀ p, (M.getD j default).A = some p → v.ownBlock ≠ some p.block
  dist : ∀ i j, i < M.length → j < M.length → i ≠ j → ∀ p q, (M.getD i default).A = some p → (M.getD j default).A = some q → p.block ≠ q.block
  bel : Below w.heap.size w wr
def recsOf (M : List BA) (j : Nat) : List Rec := (M.getD j default).b.L
section
variable {w wr w' wb : World} {v v' : Value} {M : List BA} {F G : Nat → List Rec}
theorem Pt.nil_at (h : Below w.heap.size w wr) : Pt w wr (.slice none 0 0) [] F :=
  ⟨World.ownsRow_nil _ _ _ _, (fun j h => absurd h (by simp)), (fun j h => absurd h (by simp)), (fun j h => absurd h (by simp)), (fun j h => absurd h (by simp)), (fun i j h => absurd h (by simp)), h⟩
theorem Pt.congr (h : Pt w wr v M F) (he : ∀ j, j < M.length → F j = G j) : Pt w wr v M G :=
  ⟨h.own, fun j hj => by rw [← he j hj]; exact h.rows j hj, fun j hj => by rw [← he j hj]; exact h.len j hj, fun j hj => by rw [← he j hj]; exact h.ok j hj, h.far, h.dist, h.bel⟩
theorem Pt.below (h : Pt w wr v M F) (hb : Below wr.heap.size wr w') : Pt w w' v M F :=
  ⟨rowb5 h.own hb, fun j hj => rowb5 (h.rows j hj) hb, h.len, h.ok, h.far, h.dist, h.bel.trans (hb.mono h.bel.size)⟩
theorem Pt.low (h : Pt w wr v M F) : (∀ k, v.ownBlock = some k → k < wr.heap.size) ∧ ∀ j, j < M.length → ∀ q, (M.getD j default).A = some q → q.block < wr.heap.size :=
  ⟨fun k hk => (World.ownsRow.lt h.own k hk).2, fun j hj q hq => (World.ownsRow.lt (h.rows j hj) q.block (by unfold BA.sl; rw [hq]; rfl)).2⟩
theorem Pt.rcs (h : Pt w wr v M F) {j : Nat} (hj : j < M.length) : Rcs wr wr.heap.size (M.getD j default).A (F j).length (F j) ∧ (F j).length ≤ (M.getD j default).c ∧ (M.getD j default).c ≤ maxLen := by
  have hl := h.len j hj
  obtain ⟨A', c', hv, h1, h2, h3, _⟩ := Rcs.of_own (h.rows j hj) hl (h.ok j hj)
  unfold BA.sl at hv
  injection hv with e1 _ e2
  rw [e1, e2, hl]
  exact ⟨h3, h1, h2⟩
theorem Pt.bas (h : Pt w wr v M (recsOf M)) (h64 : ∀ j, j < M.length → (M.getD j default).b.L.length ≤ 80) : ∃ A c, v = .slice A M.length c ∧ M.length ≤ c ∧ c ≤ maxLen ∧ Bas wr wr.heap.size A M.length M := by
  have h0 := h.own
  have he : ∀ k, k < M.length → Rcs wr wr.heap.size (M.getD k default).A (M.getD k default).b.L.length (M.getD k default).b.L ∧ (M.getD k default).b.L.length ≤ 80 ∧ (M.getD k default).b.L.length ≤ (M.getD k default).c ∧ (M.getD k default).c ≤ maxLen := fun k hk => by
    obtain ⟨h1, h2, h3⟩ := h.rcs hk
    exact ⟨h1, h64 k hk, h2, h3⟩
  rcases h.own.2 with ⟨rfl, hz⟩ | ⟨b, cap, cur, rfl, hb, hh, hnc, hm, _⟩
  · have : M = [] := List.length_eq_zero_iff.1 hz
    subst this
    exact ⟨none, 0, rfl, Nat.le_refl _, Nat.zero_le _, Bas.nil_⟩
  · exact ⟨_, cap, rfl, hnc, hm, rfl, ⟨fun j u hj => ⟨_, rfl, (Array.getElem?_eq_some_iff.1 hh).1, h0.cells (g := b) rfl j u hj⟩⟩, he⟩
theorem getD_snoc (M : List BA) (x : BA) (j : Nat) : (j < M.length → (M ++ [x]).getD j default = M.getD j default) ∧ (j = M.length → (M ++ [x]).getD j default = x) := by
  refine ⟨fun h => ?_, fun h => ?_⟩
  · simp [List.getD_eq_getElem?_getD, List.getElem?_append_left h]
  · subst h; simp [List.getD_eq_getElem?_getD]
theorem Pt.push {x : BA} {lo : Nat} (h : Pt w wr v M (recsOf M)) (hx : wr.ownsRow w.heap.size 38 4 x.sl x.b.L.length (rcells x.b.L)) (hk : ∀ r ∈ x.b.L, i64_ r.time)
    (hl : ∀ p, x.A = some p → lo ≤ p.block) (hv : ∀ k, v.ownBlock = some k → k < lo) (hm : ∀ j, j < M.length → ∀ q, (M.getD j default).A = some q → q.block < lo)
    (ho : wb.ownsRow w.heap.size 24 7 v' (M.length + 1) (bcells M ++ x.cells)) (hg : wr.grownBy wb v.ownBlock) (hat : v'.ownBlock = v.ownBlock ∨ v'.ownBlock = some wr.heap.size) : Pt w wb v' (M ++ [x]) (recsOf (M ++ [x])) := by
  have keep : ∀ y : BA, wr.ownsRow w.heap.size 38 4 y.sl y.b.L.length (rcells y.b.L) → (∀ p, y.A = some p → v.ownBlock ≠ some p.block) → wb.ownsRow w.heap.size 38 4 y.sl y.b.L.length (rcells y.b.L) := fun y h1 h2 => by
    refine h1.kept hg ?_
    cases hA : y.A with
    | none => left; unfold BA.sl; rw [hA]; rfl
    | some p => right; unfold BA.sl; rw [hA]; exact fun e => h2 p hA e.symm
  have fr : ∀ y : BA, wr.ownsRow w.heap.size 38 4 y.sl y.b.L.length (rcells y.b.L) → (∀ p, y.A = some p → v.ownBlock ≠ some p.block) → (∀ p, y.A = some p → v'.ownBlock ≠ some p.block) := fun y h1 h2 p hp => by
    rcases hat with e | e
    · rw [e]; exact h2 p hp
    · rw [e]
      intro e2
      injection e2 with e2
      have := (World.ownsRow.lt h1 p.block (by unfold BA.sl; rw [hp]; rfl)).2
      omega
  have hxf : ∀ p, x.A = some p → v.ownBlock ≠ some p.block := fun p hp e => by have := hl p hp; have := hv _ e; omega
  have g1 := fun j => getD_snoc M x j
  have cs : ∀ j, j < (M ++ [x]).length → j < M.length ∨ j = M.length := fun j hj => by simp at hj; omega
  refine ⟨?_, fun j hj => ?_, fun j hj => rfl, fun j hj => ?_, fun j hj => ?_, fun i j hi hj hn p q hp hq => ?_, h.bel.trans ((Below.refl _ _).grown hg h.bel.size (fun k hk => (World.ownsRow.lt h.own k hk).1))⟩
  · rw [bcells_append, List.length_append]; simpa [bcells] using ho
  · unfold recsOf
    rcases cs j hj with c | c
    · rw [(g1 j).1 c]; exact keep _ (h.rows j c) (h.far j c)
    · rw [(g1 j).2 c]; exact keep x hx hxf
  · unfold recsOf
    rcases cs j hj with c | c
    · rw [(g1 j).1 c]; exact h.ok j c
    · rw [(g1 j).2 c]; exact hk
  · rcases cs j hj with c | c
    · rw [(g1 j).1 c]; exact fr _ (h.rows j c) (h.far j c)
    · rw [(g1 j).2 c]; exact fr x hx hxf
  · rcases cs i hi with c | c <;> rcases cs j hj with d | d
    · rw [(g1 i).1 c] at hp; rw [(g1 j).1 d] at hq; exact h.dist i j c d hn p q hp hq
    · rw [(g1 i).1 c] at hp; rw [(g1 j).2 d] at hq; have := hm i c p hp; have := hl q hq; omega
    · rw [(g1 i).2 c] at hp; rw [(g1 j).1 d] at hq; have := hm j d q hq; have := hl p hp; omega
    · omega
end
/-! ### a record is written over -/
def set4w (w : World) (b k : Nat) (y0 y1 y2 y3 : Value) : World := (((w.setCell ⟨b, k, none⟩ y0).setCell ⟨b, k + 1, none⟩ y1).setCell ⟨b, k + 2, none⟩ y2).setCell ⟨b, k + 3, none⟩ y3
theorem set4l {α : Type} (P Q : List α) (x0 x1 x2 x3 y0 y1 y2 y3 : α) (k : Nat) (hk : P.length = k) :
    ((((P ++ x0 :: x1 :: x2 :: x3 :: Q).set k y0).set (k + 1) y1).set (k + 2) y2).set (k + 3) y3 = P ++ y0 :: y1 :: y2 :: y3 :: Q := by
  subst hk
  simp [List.set_append]
theorem drop_eqR (L : List Rec) (k : Nat) (hk : k < L.length) : L.drop k = L.getD k default :: L.drop (k + 1) := by
  rw [List.drop_eq_getElem_cons hk, List.getD_eq_getElem?_getD, List.getElem?_eq_getElem hk]; rfl
theorem row_put4 {w : World} {base b n cap r : Nat} {T : TypeId} {L : List Rec} (h : w.ownsRow base T 4 (.slice (some ⟨b, 0, none⟩) n cap) n (rcells L)) (hn : L.length = n) (hr : r < n) (a : Rec) :
    (set4w w b (r * 4) (.string a.key) (.string a.value) (.bool a.gone) (.int .i64 a.time)).ownsRow base T 4 (.slice (some ⟨b, 0, none⟩) n cap) n (rcells (L.take r ++ a :: L.drop (r + 1))) := by
  have h5 := ((((h.stored (r * 4) (.string a.key)).1.stored (r * 4 + 1) (.string a.value)).1.stored (r * 4 + 2) (.bool a.gone)).1.stored (r * 4 + 3) (.int .i64 a.time)).1
  have e : rcells L = rcells (L.take r) ++ (L.getD r default).cells ++ rcells (L.drop (r + 1)) := by
    conv => lhs; rw [← List.take_append_drop r L, drop_eqR L r (by omega), rcells_append]
    simp [rcells]
  have e2 : rcells (L.take r ++ a :: L.drop (r + 1)) = rcells (L.take r) ++ a.cells ++ rcells (L.drop (r + 1)) := by rw [rcells_append]; simp [rcells]
  have hl : (rcells (L.take r)).length = r * 4 := by rw [rcells_length, List.length_take, hn, Nat.min_eq_left (by omega)]
  rw [e] at h5
  simp only [Rec.cells, List.append_assoc, List.cons_append, List.nil_append] at h5
  rw [set4l _ _ _ _ _ _ _ _ _ _ _ hl] at h5
  rw [e2]
  simp only [Rec.cells, List.append_assoc, List.cons_append, List.nil_append]
  exact h5
theorem row_set4 {w : World} {base s n b k : Nat} {e : TypeId} {v y0 y1 y2 y3 : Value} {xs : List Value} (h : w.ownsRow base e s v n xs) (hg : v.ownBlock ≠ some b) : (set4w w b k y0 y1 y2 y3).ownsRow base e s v n xs :=
  row_setQ (row_setQ (row_setQ (row_setQ h hg) hg) hg) hg
theorem Pt.put {w wr : World} {v : Value} {M : List BA} {F : Nat → List Rec} (h : Pt w wr v M F) {i r b : Nat} (hi : i < M.length) (hA : (M.getD i default).A = some ⟨b, 0, none⟩) (hr : r < (M.getD i default).b.L.length) (a : Rec) (ha : i64_ a.time) :
    Pt w (set4w wr b (r * 4) (.string a.key) (.string a.value) (.bool a.gone) (.int .i64 a.time)) v M (fun j => if j = i then (F i).take r ++ a :: (F i).drop (r + 1) else F j) := by
  have hf : v.ownBlock ≠ some b := h.far i hi _ hA
  have hlo : w.heap.size ≤ b := (World.ownsRow.lt (h.rows i hi) b (by unfold BA.sl; rw [hA]; rfl)).1
  have hln := h.len i hi
  refine ⟨row_set4 h.own hf, fun j hj => ?_, fun j hj => ?_, fun j hj => ?_, h.far, h.dist, ?_⟩
  · by_cases e : j = i
    · subst e
      rw [if_pos rfl]
      have hrow := h.rows j hj
      unfold BA.sl at hrow ⊢
      rw [hA] at hrow ⊢
      exact row_put4 hrow hln hr a
    · rw [if_neg e]
      refine row_set4 (h.rows j hj) ?_
      unfold BA.sl
      cases hB : (M.getD j default).A with
      | none => intro e2; cases e2
      | some q => intro e2; injection e2 with e2; exact h.dist j i hj hi e q _ hB hA e2
  · by_cases e : j = i
    · subst e
      rw [if_pos rfl, List.length_append, List.length_take, List.length_cons, List.length_drop]
      omega
    · rw [if_neg e]; exact h.len j hj
  · by_cases e : j = i
    · subst e
      rw [if_pos rfl]
      intro x hx
      rcases List.mem_append.1 hx with hx | hx
      · exact h.ok j hj x (List.mem_of_mem_take hx)
      · rcases List.mem_cons.1 hx with rfl | hx
        · exact ha
        · exact h.ok j hj x (List.mem_of_mem_drop hx)
    · rw [if_neg e]; exact h.ok j hj
  · exact (((h.bel.setCell hlo _).setCell hlo _).setCell hlo _).setCell hlo _
end Go.Proofs.Ytkdpfajoeajenaa
