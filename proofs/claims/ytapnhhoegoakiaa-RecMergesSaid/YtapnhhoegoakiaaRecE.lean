/-
  What rec.Encode does.
-/
import Derived.Test.YtapnhhoegoakiaaRecR
import Derived.Test.YtapnhhoegoakiaaRows2
namespace Go.Proofs.Ytapnhhoegoakiaa
open Go.RowKit
set_option linter.unusedVariables false
set_option linter.unusedSimpArgs false

def prevKey (L : List Rec) : Nat → ByteArray
  | 0 => ⟨#[]⟩
  | k + 1 => (L.getD k default).key
def rowsS (L : List Rec) (time : Int) (k : Nat) : List (List UInt8) := (List.range k).map fun i => recS (L.getD i default) time (prevKey L i)
theorem rowsS_succ (L : List Rec) (time : Int) (k : Nat) : rowsS L time (k + 1) = rowsS L time k ++ [recS (L.getD k default) time (prevKey L k)] := by
  simp [rowsS, List.range_succ]
def headOf (b : Bat) : List UInt8 := headS (markB b) b.base.toNat b.pid.toNat b.epoch.toNat b.seq.toNat b.kind.toNat b.time.toNat
/-- the bytes of a batch that may be -/
def encB (b : Bat) : List UInt8 := if markB b then headOf b else headOf b ++ Wn.enc b.L.length ++ (rowsS b.L b.time b.L.length).flatten

theorem recS_len (r : Rec) (time : Int) (last : ByteArray) (hk : r.key.size ≤ 1024) (hv : r.value.size ≤ 1024) : (recS r time last).length ≤ 4000 := by
  unfold recS
  have l1 := (Wn.enc_len (Wn.zig (r.time - time))).2
  have l2 : (encF_ r.gone).length ≤ 1 := by unfold encF_; split <;> simp
  have l3 := (Wn.enc_len (comm last.data.toList r.key.data.toList)).2
  have hxs : (r.key.extract (comm last.data.toList r.key.data.toList) r.key.size).size ≤ 1024 := by rw [ByteArray.size_extract]; omega
  have l4 := encT_len (r.key.extract (comm last.data.toList r.key.data.toList) r.key.size)
  have l5 := encT_len r.value
  have l6 : (if r.gone = true then [] else encT r.value : List UInt8).length ≤ (encT r.value).length := by split <;> simp
  simp only [List.length_append]
  omega
theorem headS_len (mk : Bool) (a b c d e f : Nat) : (headS mk a b c d e f).length ≤ 80 := by
  unfold headS
  have l1 := (Wn.enc_len 1).2
  have l2 := (Wn.enc_len e).2
  have l3 := (Wn.enc_len a).2
  have l4 := (Wn.enc_len b).2
  have l5 := (Wn.enc_len c).2
  have l6 := (Wn.enc_len d).2
  have l7 := (Wn.enc_len f).2
  have l8 : (if b = 0 then [] else Wn.enc c ++ (if mk = true then [] else Wn.enc d) : List UInt8).length ≤ 20 := by
    split
    · simp
    · split <;> simp only [List.length_append, List.length_nil] <;> omega
  simp only [List.length_append]
  omega
theorem recE_zero {r : Rec} (h : recE r = 0) : r.key.size ≤ 1024 ∧ r.value.size ≤ 1024 ∧ 0 ≤ r.time ∧ r.time ≤ 1099511627776 ∧ (r.gone = true → r.value.size = 0) := by
  unfold recE at h
  split at h
  · cases h
  · rename_i h1
    split at h
    · cases h
    · rename_i h2
      simp at h1 h2
      have h3 := h2.1
      rw [fz_iff] at h3
      refine ⟨h1.1, h1.2, h3.1, h3.2, fun hg => ?_⟩
      have := h2.2 hg
      rw [this]
      rfl
theorem firstE_mem (L : List Rec) (h : firstE L = 0) : ∀ r ∈ L, recE r = 0 := by
  induction L with
  | nil => intro r hr; cases hr
  | cons x L ih =>
    unfold firstE at h
    split at h
    · rename_i hx
      intro r hr
      rcases List.mem_cons.1 hr with rfl | hr
      · exact hx
      · exact ih h r hr
    · rename_i hx; exact absurd h hx
/-- a batch that may be -/
structure Fine (b : Bat) : Prop where
  k1 : 0 ≤ b.kind
  k2 : b.kind ≤ 3
  b1 : 0 ≤ b.base
  b2 : b.base ≤ 1099511627776
  p1 : 0 ≤ b.pid
  p2 : b.pid ≤ 1048576
  e1 : 0 ≤ b.epoch
  e2 : b.epoch ≤ 32767
  s1 : 0 ≤ b.seq
  s2 : b.seq ≤ 2147483647
  t1 : 0 ≤ b.time
  t2 : b.time ≤ 1099511627776
  form : formB b = true
  len : b.L.length ≤ 64
  recs : ∀ r ∈ b.L, recE r = 0
  cnt : countE b = 0
theorem fine_iff (b : Bat) : validE b = 0 ↔ Fine b := by
  unfold validE
  constructor
  · intro h
    split at h
    · rename_i h1
      rw [Bool.and_eq_true] at h1
      obtain ⟨hl, hf⟩ := h1
      simp only [limB, Bool.and_eq_true, fz_iff] at hl
      obtain ⟨⟨⟨⟨⟨a1, a2⟩, a3⟩, a4⟩, a5⟩, a6⟩ := hl
      split at h
      · cases h
      · rename_i h64
        split at h
        · rename_i h0
          exact ⟨a1.1, a1.2, a2.1, a2.2, a3.1, a3.2, a4.1, a4.2, a5.1, a5.2, a6.1, a6.2, hf, by omega, firstE_mem _ h0, h⟩
        · rename_i h0; exact absurd h h0
    · cases h
  · intro h
    have hl : limB b = true := by
      simp only [limB, Bool.and_eq_true, fz_iff]
      exact ⟨⟨⟨⟨⟨⟨h.k1, h.k2⟩, h.b1, h.b2⟩, h.p1, h.p2⟩, h.e1, h.e2⟩, h.s1, h.s2⟩, h.t1, h.t2⟩
    have h0 : firstE b.L = 0 := firstE_all b.L (fun j hj => h.recs _ (by rw [List.getD_eq_getElem?_getD, List.getElem?_eq_getElem hj]; exact List.getElem_mem hj))
    rw [hl, h.form, Bool.and_self, if_pos rfl, if_neg (by have := h.len; omega), if_pos h0]
    exact h.cnt
end Go.Proofs.Ytapnhhoegoakiaa
