/-
  What the document's table's All does; what a range of a table's rows is.
-/
import Derived.Test.YtmlekkbjmfknfaaCtD
namespace Go.Proofs.Ytmlekkbjmfknfaa
open Go.RowKit Go.Lib Go.Sort
set_option linter.unusedVariables false
set_option linter.unusedSimpArgs false

theorem nodup_len : ∀ (L R : List AtC), L.Pairwise (· ≠ ·) → (∀ x ∈ L, x ∈ R) → L.length ≤ R.length
  | [], _, _, _ => by simp
  | a :: l, R, h, hs => by
    obtain ⟨h1, h2⟩ := List.pairwise_cons.1 h
    obtain ⟨s, t, rfl⟩ := List.append_of_mem (hs a (by simp))
    have := nodup_len l (s ++ t) h2 fun x hx => by
      have hm := hs x (List.mem_cons_of_mem _ hx)
      rw [List.mem_append, List.mem_cons] at hm
      rw [List.mem_append]
      rcases hm with hm | rfl | hm
      · exact .inl hm
      · exact absurd rfl (h1 x hx)
      · exact .inr hm
    simp only [List.length_append, List.length_cons] at this ⊢
    omega
theorem Alk.len {L R : List AtC} (h : Alk L R) (hs : Srt L) : R.length = L.length := by
  have h1 : L.Pairwise (· ≠ ·) := hs.imp fun {a b} hab e => by rw [e, lessB_irr] at hab; cases hab
  have h2 : R.Pairwise (· ≠ ·) := h.one.imp fun {a b} hab e => hab (by rw [e])
  have a1 := nodup_len L R h1 fun x hx => (h.mem x).1 hx
  have a2 := nodup_len R L h2 fun x hx => (h.mem x).2 hx
  omega
theorem less_nil (k : ByteArray) : lessB k ⟨#[]⟩ = false := by
  have hz : (⟨#[]⟩ : ByteArray).toList = [] := by rw [ByteArray.toList_eq]
  unfold lessB
  rw [hz]
  cases k.toList <;> rfl
theorem rng_all (L : List AtC) : rngL ⟨#[]⟩ ⟨#[]⟩ L = L := by
  unfold rngL
  refine List.filter_eq_self.2 fun x _ => ?_
  unfold inR
  rw [less_nil]
  simp
theorem filter_idx {α : Type} [Inhabited α] (p : α → Bool) : ∀ (M : List α) (r : Nat), (∀ i, i < r → i < M.length → p (M.getD i default) = false) → (∀ i, r ≤ i → i < M.length → p (M.getD i default) = true) → M.filter p = M.drop r
  | [], _, _, _ => by simp
  | a :: M, 0, h1, h2 => by
    have ha : p a = true := by simpa using h2 0 (by omega) (by simp)
    rw [List.filter_cons_of_pos ha, filter_idx p M 0 (fun i hi _ => by omega) fun i hi hl => by simpa using h2 (i + 1) (by omega) (by simp; omega)]
    rfl
  | a :: M, r + 1, h1, h2 => by
    have ha : p a = false := by simpa using h1 0 (by omega) (by simp)
    rw [List.filter_cons_of_neg (by simp [ha]), filter_idx p M r (fun i hi hl => by simpa using h1 (i + 1) (by omega) (by simp; omega)) fun i hi hl => by simpa using h2 (i + 1) (by omega) (by simp; omega)]
    rfl
/-- where a range ends -/
def endOk (L : List AtC) (t : ByteArray) (r : Nat) : Prop := (t = ⟨#[]⟩ ∧ r = L.length) ∨ (t ≠ ⟨#[]⟩ ∧ posOk L t r)
theorem endOk.le {L : List AtC} {t : ByteArray} {r : Nat} (h : endOk L t r) : r ≤ L.length := by
  rcases h with ⟨_, h⟩ | ⟨_, h⟩
  · omega
  · exact h.1
theorem rng_slice {L : List AtC} {f t : ByteArray} {r1 r2 : Nat} (h1 : posOk L f r1) (h2 : endOk L t r2) : rngL f t L = (L.take r2).drop r1 := by
  have e : rngL f t L = (L.filter fun x => decide (t = ⟨#[]⟩) || lessB x.key t).filter fun x => !lessB x.key f := by
    unfold rngL
    rw [List.filter_filter]
    rfl
  have e2 : (L.filter fun x => decide (t = ⟨#[]⟩) || lessB x.key t) = L.take r2 := by
    rcases h2 with ⟨h2, h3⟩ | ⟨h2, h3⟩
    · rw [List.take_of_length_le (by omega)]
      exact List.filter_eq_self.2 fun x _ => by simp [h2]
    · have : (fun x : AtC => decide (t = ⟨#[]⟩) || lessB x.key t) = fun x => lessB x.key t := by funext x; simp [h2]
      rw [this]
      exact pos_take h3
  rw [e, e2]
  have hg : ∀ i, i < (L.take r2).length → (L.take r2).getD i default = L.getD i default := fun i hi => by
    rw [List.getD_eq_getElem?_getD, List.getD_eq_getElem?_getD, List.getElem?_take, if_pos (by simp at hi; omega)]
  refine filter_idx _ _ _ (fun i hi hl => ?_) fun i hi hl => ?_
  · rw [hg i hl, h1.2.1 i hi]; rfl
  · rw [hg i hl, h1.2.2 i hi (by simp at hl; omega)]; rfl
theorem rng_take {L : List AtC} {f t : ByteArray} {r1 r2 k : Nat} {most : Int} (h1 : posOk L f r1) (h2 : endOk L t r2) (hk : min ((r2 : Int) - (r1 : Int)) most = (k : Int)) : (rngL f t L).take most.toNat = (L.drop r1).take k := by
  have hl := h2.le
  rw [rng_slice h1 h2, List.drop_take, List.take_take]
  congr 1
  omega
theorem rng_none {L : List AtC} {f t : ByteArray} {r1 r2 : Nat} {most : Int} (h1 : posOk L f r1) (h2 : endOk L t r2) (hk : min ((r2 : Int) - (r1 : Int)) most ≤ 0) : (rngL f t L).take most.toNat = [] := by
  have hl := h2.le
  rw [rng_slice h1 h2, List.drop_take, List.take_take, show min most.toNat (r2 - r1) = 0 by omega]
  rfl
set_option maxRecDepth 100000 in
set_option maxHeartbeats 1000000 in
theorem rall_any (base g : Nat) (next : Int) (v : Value) (L R : List AtC) (w : World) (hT : Rt w base g next v R) (h : Alk L R) (hs : Srt L) (hR : R.length ≤ 100000) :
    Calls Try.prog 42 #[.pointer (some ⟨g, 0, none⟩)] w fun e w' => ∃ v', e = .returned v' ∧ w'.ownsRow w.heap.size 90 5 v' L.length (ccells L) ∧ Below w.heap.size w w' := by
  have hlen := h.len hs
  have HC : Hid (Calls Try.prog 52 #[.pointer (some ⟨g, 0, none⟩), .string ⟨#[]⟩, .string ⟨#[]⟩, .int .i64 (R.length : Int)] w fun e w' => ∃ v', e = .returned v' ∧ w'.ownsRow w.heap.size 90 5 v' L.length (ccells L) ∧ Below w.heap.size w w') := by
    have := rrange_any base g next v L R ⟨#[]⟩ ⟨#[]⟩ R.length w hT h hs hR (by omega)
    rw [rng_all, List.take_of_length_le (by simp; omega)] at this
    exact this
  obtain ⟨A, c, rfl, _, _, hA⟩ := Acs.of_row hT.row rfl hT.ok
  have c1 : w.cell? ⟨g, 1, none⟩ = some (.slice A R.length c) := cell_of_row _ _ 1 _ _ _ hT.box
  clear hT hA h hs hlen
  go_enter Try.func42, Try.ntmps42
  go_wp2_with (go_at_call 52; (with_reducible refine HC.out.mono ?_); rintro e w1 ⟨v1, rfl, h1, h2⟩)
  go_ret
  exact ⟨v1, rfl, h1, h2⟩
end Go.Proofs.Ytmlekkbjmfknfaa
