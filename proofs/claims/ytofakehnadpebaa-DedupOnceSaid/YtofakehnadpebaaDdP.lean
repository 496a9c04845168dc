/-
  Batches that were taken have the numbers 0, 1, 2 .. without a gap: the plain mathematics; a slice of batches in memory.
-/
import Derived.Test.YtofakehnadpebaaDdG
import Derived.Test.YtofakehnadpebaaDdO
namespace Go.Proofs.Ytofakehnadpebaa
open Go.RowKit Go.Maps
set_option linter.unusedVariables false
set_option linter.unusedSimpArgs false

def wantPE (P : List Bat) (pid ep : Int) : Int := ((P.filter fun a => decide (a.pid = pid ∧ a.epoch = ep)).map fun a => (a.L.length : Int)).sum
theorem want_snoc (P : List Bat) (a : Bat) (pid ep : Int) : wantPE (P ++ [a]) pid ep = wantPE P pid ep + if a.pid = pid ∧ a.epoch = ep then (a.L.length : Int) else 0 := by
  unfold wantPE
  rw [List.filter_append, List.map_append, List.sum_append]
  by_cases h : a.pid = pid ∧ a.epoch = ep
  · rw [if_pos h, List.filter_cons_of_pos (by simpa using h)]; simp
  · rw [if_neg h, List.filter_cons_of_neg (by simpa using h)]; simp
theorem want_none (P : List Bat) (pid ep : Int) (h : ∀ a ∈ P, a.pid = pid → a.epoch ≠ ep) : wantPE P pid ep = 0 := by
  unfold wantPE
  rw [List.filter_eq_nil_iff.2 fun a ha => by simpa using h a ha]
  rfl
structure OkAt (P : List Bat) (b : Bat) : Prop where
  ep : ∀ a ∈ P, a.pid = b.pid → ¬ b.epoch < a.epoch ∧ ¬ (markB a = true ∧ a.epoch = b.epoch)
  seq : markB b = false → b.seq = wantPE P b.pid b.epoch
def Good (T : List Bat) : Prop := ∀ i, i < T.length → OkAt (T.take i) (T.getD i zB7)
where zB7 : Bat := ⟨0, 0, 0, 0, 0, 0, []⟩
theorem good_nil : Good [] := fun i h => absurd h (by simp)
theorem good_snoc {T : List Bat} {b : Bat} (h : Good T) (hb : OkAt T b) : Good (T ++ [b]) := by
  intro i hi
  rw [List.length_append, List.length_singleton] at hi
  by_cases h1 : i < T.length
  · rw [List.take_append_of_le_length (by omega), List.getD_eq_getElem?_getD, List.getElem?_append_left h1, ← List.getD_eq_getElem?_getD]
    exact h i h1
  · have e : i = T.length := by omega
    subst e
    rw [List.take_append_of_le_length (Nat.le_refl _), List.take_of_length_le (Nat.le_refl _), List.getD_eq_getElem?_getD, List.getElem?_append_right (Nat.le_refl _)]
    simpa using hb
structure Inv (L : List Rw) (T : List Bat) : Prop where
  none : ∀ pid, getL Rw.pid L pid = none → ∀ a ∈ T, a.pid ≠ pid
  ep : ∀ pid r, getL Rw.pid L pid = some r → ∀ a ∈ T, a.pid = pid → a.epoch ≤ r.epoch ∧ (markB a = true → a.epoch < r.epoch)
  sum : ∀ pid r, getL Rw.pid L pid = some r → r.seq + r.count = wantPE T pid r.epoch
theorem inv_nil : Inv [] [] := ⟨fun _ _ a ha => (by cases ha), fun _ _ h => (by cases h), fun _ _ h => (by cases h)⟩
theorem jdgX_ok {mk op th fu : Bool} {pl re rs rc epoch seq n kind : Int} (h1 : (jdgX mk op th fu pl re rs rc epoch seq n kind).1 = false) (h2 : (jdgX mk op th fu pl re rs rc epoch seq n kind).2.2 = 0) :
    re ≤ epoch ∧ (mk = false → seq = if epoch = re then rs + rc else 0) := by
  unfold jdgX at h1 h2
  by_cases c1 : epoch < re
  · rw [if_pos c1] at h1 h2
    cases mk <;> simp at h1 h2
  · rw [if_neg c1] at h1 h2
    refine ⟨by omega, fun hm => ?_⟩
    by_cases c2 : mk = false ∧ epoch = re ∧ seq + n ≤ rs + rc
    · rw [if_pos c2] at h1; cases h1
    · rw [if_neg c2] at h1 h2
      by_cases c3 : op = true ∧ (re < epoch ∨ kind = 0)
      · rw [if_pos c3] at h2; cases h2
      · rw [if_neg c3] at h1 h2
        by_cases c4 : mk = false ∧ seq ≠ (if epoch = re then rs + rc else 0)
        · rw [if_pos c4] at h2; cases h2
        · by_cases c5 : seq = (if epoch = re then rs + rc else 0)
          · exact c5
          · exact absurd ⟨hm, c5⟩ c4
theorem take_jdg {most next : Int} {L : List Rw} {b : Bat} (h : takeE most next L b = 0) : (jdg most L b).2.2 = 0 ∧ (jdg most L b).1 = false ∧ ¬ b.base < next := by
  unfold takeE at h
  by_cases h1 : (jdg most L b).2.2 = 0
  · rw [if_neg (by simpa using h1)] at h
    by_cases h2 : (jdg most L b).1 = true
    · rw [if_pos h2] at h; cases h
    · rw [if_neg h2] at h
      by_cases h3 : b.base < next
      · rw [if_pos h3] at h; cases h
      · exact ⟨h1, by simpa using h2, h3⟩
  · rw [if_pos h1] at h
    exact absurd h h1
theorem inv_step {most next : Int} {L : List Rw} {T : List Bat} {b : Bat} (hI : Inv L T) (hR : Rise Rw.pid L) (h : takeE most next L b = 0) (hp : 0 < b.pid) : OkAt T b ∧ Inv (takeL most next L b) (T ++ [b]) := by
  obtain ⟨h1, h2, _⟩ := take_jdg h
  have hV := jdg_ok h1
  have hF := (fine_iff b).1 hV
  unfold jdg at h1 h2
  rw [if_pos hV, if_neg (by omega)] at h1 h2
  unfold jdgR at h1 h2
  obtain ⟨hre, hseq⟩ := jdgX_ok h2 h1
  have hL : takeL most next L b = putL Rw.pid (afterR (knownR L b.pid) b) L := by unfold takeL; rw [if_pos ⟨h, by omega⟩]
  -- what the batches ahead are
  have hold : ∀ a ∈ T, a.pid = b.pid → a.epoch ≤ (knownR L b.pid).epoch ∧ (markB a = true → a.epoch < (knownR L b.pid).epoch) := by
    intro a ha hap
    cases hg : getL Rw.pid L b.pid with
    | none => exact absurd hap (hI.none _ hg a ha)
    | some r => unfold knownR; rw [hg]; exact hI.ep _ r hg a ha hap
  have hwant : b.epoch = (knownR L b.pid).epoch → (knownR L b.pid).seq + (knownR L b.pid).count = wantPE T b.pid b.epoch := by
    intro he
    cases hg : getL Rw.pid L b.pid with
    | none =>
      have he1 := hF.e1
      unfold knownR at he
      rw [hg] at he
      have : b.epoch = -1 := he
      omega
    | some r =>
      unfold knownR at he ⊢
      rw [hg] at he ⊢
      have := hI.sum _ r hg
      simp only [Option.getD_some] at he ⊢
      rw [he]; exact this
  have hzero : b.epoch ≠ (knownR L b.pid).epoch → wantPE T b.pid b.epoch = 0 := fun hne => want_none _ _ _ fun a ha hap he => by
    have := (hold a ha hap).1
    omega
  have hok : OkAt T b := by
    refine ⟨fun a ha hap => ?_, fun hm => ?_⟩
    · obtain ⟨g1, g2⟩ := hold a ha hap
      exact ⟨by omega, fun ⟨g3, g4⟩ => by have := g2 g3; omega⟩
    · have := hseq hm
      by_cases he : b.epoch = (knownR L b.pid).epoch
      · rw [if_pos he] at this; rw [this]; exact hwant he
      · rw [if_neg he] at this; rw [this]; exact (hzero he).symm
  refine ⟨hok, ?_⟩
  rw [hL]
  have hget : ∀ pid, getL Rw.pid (putL Rw.pid (afterR (knownR L b.pid) b) L) pid = if b.pid = pid then some (afterR (knownR L b.pid) b) else getL Rw.pid L pid := fun pid => by rw [getL_put, afterR_pid]
  have hwb : wantPE T b.pid (b.epoch + 1) = 0 := want_none _ _ _ fun a ha hap he => by have := (hold a ha hap).1; omega
  refine ⟨fun pid hn a ha => ?_, fun pid r hr a ha hap => ?_, fun pid r hr => ?_⟩
  · rw [hget] at hn
    by_cases e : b.pid = pid
    · rw [if_pos e] at hn; cases hn
    · rw [if_neg e] at hn
      rcases List.mem_append.1 ha with ha | ha
      · exact hI.none pid hn a ha
      · simp only [List.mem_singleton] at ha; rw [ha]; exact e
  · rw [hget] at hr
    by_cases e : b.pid = pid
    · rw [if_pos e] at hr
      injection hr with hr
      subst hr
      rcases List.mem_append.1 ha with ha | ha
      · obtain ⟨g1, g2⟩ := hold a ha (by omega)
        unfold afterR
        cases hm : markB b with
        | true => exact ⟨by show a.epoch ≤ b.epoch + 1; omega, fun h3 => by show a.epoch < b.epoch + 1; omega⟩
        | false => exact ⟨by show a.epoch ≤ b.epoch; omega, fun h3 => by show a.epoch < b.epoch; have := g2 h3; omega⟩
      · simp only [List.mem_singleton] at ha
        subst ha
        unfold afterR
        cases hm : markB a with
        | true => exact ⟨by show a.epoch ≤ a.epoch + 1; omega, fun h3 => by show a.epoch < a.epoch + 1; omega⟩
        | false => exact ⟨by show a.epoch ≤ a.epoch; omega, fun h3 => by cases h3⟩
    · rw [if_neg e] at hr
      rcases List.mem_append.1 ha with ha | ha
      · exact hI.ep pid r hr a ha hap
      · simp only [List.mem_singleton] at ha; rw [ha] at hap; exact absurd hap e
  · rw [hget] at hr
    rw [want_snoc]
    by_cases e : b.pid = pid
    · rw [if_pos e] at hr
      injection hr with hr
      subst hr
      subst e
      cases hm : markB b with
      | true =>
        have ea : afterR (knownR L b.pid) b = begunR b.pid (b.epoch + 1) (max (knownR L b.pid).time b.time) := by unfold afterR; rw [if_pos hm]
        rw [ea]
        show (0 : Int) + 0 = wantPE T b.pid (b.epoch + 1) + (if b.pid = b.pid ∧ b.epoch = b.epoch + 1 then (b.L.length : Int) else 0)
        rw [hwb, if_neg (fun h => by have := h.2; omega)]
      | false =>
        have ea : afterR (knownR L b.pid) b = ⟨b.pid, b.epoch, b.seq, b.L.length, b.base, fromR (knownR L b.pid) b, max (knownR L b.pid).time b.time⟩ := by unfold afterR; rw [if_neg (by rw [hm]; decide)]
        rw [ea]
        show b.seq + (b.L.length : Int) = wantPE T b.pid b.epoch + (if b.pid = b.pid ∧ b.epoch = b.epoch then (b.L.length : Int) else 0)
        rw [if_pos ⟨rfl, rfl⟩, hok.seq hm]
    · rw [if_neg e] at hr
      rw [if_neg (fun h => e h.1), Int.add_zero]
      exact hI.sum pid r hr
theorem take_len {most next : Int} {L : List Rw} {b : Bat} (hR : Rise Rw.pid L) : (takeL most next L b).length ≤ L.length + 1 := by
  unfold takeL
  split
  · rw [putL_length _ _ _ hR]; split <;> omega
  · omega
theorem take_rest {most next : Int} {L : List Rw} {b : Bat} (h : ¬ (takeE most next L b = 0 ∧ 0 < b.pid)) (hp : takeE most next L b = 0 → 0 ≤ b.pid) : takeL most next L b = L := by
  unfold takeL
  rw [if_neg fun ⟨h1, h2⟩ => h ⟨h1, by have := hp h1; omega⟩]
theorem nextI_bd {b : Bat} (h : validE b = 0) : 0 ≤ nextI b ∧ nextI b ≤ 1099511627777 := by
  have hF := (fine_iff b).1 h
  have hc := hF.cnt
  have h0 : 0 ≤ spanI b := by unfold spanI; split <;> omega
  unfold nextI
  rw [if_pos h]
  unfold countE at hc
  split at hc
  · cases hc
  · rename_i hn
    simp only [Bool.or_eq_true, decide_eq_true_eq, not_or] at hn
    have := hF.b1
    omega
theorem takeN_bd {most next : Int} {L : List Rw} {b : Bat} (h1 : 0 ≤ next) (h2 : next ≤ 1099511627777) : 0 ≤ takeN most next L b ∧ takeN most next L b ≤ 1099511627777 := by
  unfold takeN
  split
  · rename_i h; exact nextI_bd (jdg_ok (take_jdg h).1)
  · exact ⟨h1, h2⟩
theorem take_pid {most next : Int} {L : List Rw} {b : Bat} (h : takeE most next L b = 0) : 0 ≤ b.pid := ((fine_iff b).1 (jdg_ok (take_jdg h).1)).p1

/-- a batch, and where its records lie -/
structure TA where
  b : Bat
  A : Option Addr
  c : Nat
instance : Inhabited TA := ⟨⟨Good.zB7, none, 0⟩⟩
def TA.cells (x : TA) : List Value := (x.b.cells x.A x.c).toList
def tcells (M : List TA) : List Value := M.flatMap TA.cells
theorem tcells_length (M : List TA) : (tcells M).length = M.length * 7 := by
  induction M with
  | nil => rfl
  | cons r L ih => simp only [tcells, List.flatMap_cons, List.length_append, List.length_cons] at *; rw [ih]; simp only [TA.cells, Bat.cells, List.length_cons, List.length_nil]; omega
theorem tcells_snoc (L : List TA) (x : TA) : tcells (L ++ [x]) = tcells L ++ x.cells := by simp [tcells]
theorem tcells_get (L : List TA) : ∀ (k j : Nat), k < L.length → j < 7 → (tcells L)[k * 7 + j]? = ((L.getD k default).cells)[j]? := by
  induction L with
  | nil => intro k j h; exact absurd h (by simp)
  | cons r L ih =>
    intro k j h hj
    have e : tcells (r :: L) = r.cells ++ tcells L := by simp [tcells]
    have hl : r.cells.length = 7 := rfl
    rw [e]
    cases k with
    | zero => rw [List.getElem?_append_left (by omega)]; simp
    | succ k =>
      rw [List.getElem?_append_right (by omega), show (k + 1) * 7 + j - r.cells.length = k * 7 + j from by omega, ih k j (by simpa using h) hj]
      simp
/-- a batch's cells in a slice of batches -/
theorem t_row {w : World} {B n : Nat} {A : Option Addr} {M : List TA} (hl : M.length = n) (h : Lies w B A (tcells M)) {k : Nat} (hk : k < n) : ∃ p, A = some p ∧ p.block < B ∧ w.cell? (p.add (k * 7)) = some (.int .i64 (M.getD k default).b.base) ∧
    w.cell? ⟨(p.add (k * 7)).block, (p.add (k * 7)).off + 1, none⟩ = some (.int .i64 (M.getD k default).b.pid) ∧
    w.cell? ⟨(p.add (k * 7)).block, (p.add (k * 7)).off + 2, none⟩ = some (.int .i64 (M.getD k default).b.epoch) ∧
    w.cell? ⟨(p.add (k * 7)).block, (p.add (k * 7)).off + 3, none⟩ = some (.int .i64 (M.getD k default).b.seq) ∧
    w.cell? ⟨(p.add (k * 7)).block, (p.add (k * 7)).off + 4, none⟩ = some (.int .i64 (M.getD k default).b.kind) ∧
    w.cell? ⟨(p.add (k * 7)).block, (p.add (k * 7)).off + 5, none⟩ = some (.int .i64 (M.getD k default).b.time) ∧
    w.cell? ⟨(p.add (k * 7)).block, (p.add (k * 7)).off + 6, none⟩ = some (.slice (M.getD k default).A (M.getD k default).b.L.length (M.getD k default).c) := by
  have g : ∀ j u, j < 7 → ((M.getD k default).cells)[j]? = some u → ∃ p, A = some p ∧ p.block < B ∧ w.cell? ((p.add (k * 7)).add j) = some u := by
    intro j u hj hu
    obtain ⟨p, e, hb, hc⟩ := h.get (k * 7 + j) u ((tcells_get M k j (by omega) hj).trans hu)
    exact ⟨p, e, hb, by rw [add_twice]; exact hc⟩
  obtain ⟨p, e, hb, c0⟩ := g 0 _ (by omega) rfl
  have g' : ∀ j u, 0 < j → j < 7 → ((M.getD k default).cells)[j]? = some u → w.cell? ⟨(p.add (k * 7)).block, (p.add (k * 7)).off + j, none⟩ = some u := fun j u h0 hj hu => by
    obtain ⟨q, e', _, c⟩ := g j u hj hu
    rw [e] at e'
    injection e' with e'
    subst e'
    rw [← add_pos' _ j h0]; exact c
  refine ⟨p, e, hb, ?_, g' 1 _ (by omega) (by omega) rfl, g' 2 _ (by omega) (by omega) rfl, g' 3 _ (by omega) (by omega) rfl, g' 4 _ (by omega) (by omega) rfl, g' 5 _ (by omega) (by omega) rfl, g' 6 _ (by omega) (by omega) rfl⟩
  rw [add_twice, Nat.add_zero] at c0; exact c0
theorem getT (M : List TA) (k : Nat) : (M.map TA.b).getD k Good.zB7 = (M.getD k default).b := by
  simp only [List.getD_eq_getElem?_getD, List.getElem?_map]
  cases M[k]? <;> rfl
/-- an owned slice of batches lies in memory -/
theorem t_lies {w : World} {base n : Nat} {v : Value} {M : List TA} (h : w.ownsRow base 26 7 v n (tcells M)) (hn : M.length = n) : ∃ A c, v = .slice A n c ∧ n ≤ c ∧ c ≤ maxLen ∧ Lies w w.heap.size A (tcells M) := by
  have h0 := h
  rcases h.2 with ⟨rfl, hz⟩ | ⟨b, cap, cur, rfl, hb, hh, hnc, hm, _⟩
  · subst hz
    have : M = [] := List.length_eq_zero_iff.1 hn
    subst this
    exact ⟨none, 0, rfl, Nat.le_refl _, Nat.zero_le _, Lies.empty⟩
  · refine ⟨_, cap, rfl, hnc, hm, ⟨fun j u hj => ?_⟩⟩
    exact ⟨_, rfl, (Array.getElem?_eq_some_iff.1 hh).1, h0.cells (g := b) rfl j u hj⟩
end Go.Proofs.Ytofakehnadpebaa
