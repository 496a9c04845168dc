/-
  What happens to a disk in memory where one of its files is changed, one is made, one goes.
-/
import Derived.Test.YtebkgcnldbkgeaaDkE
namespace Go.Proofs.Ytebkgcnldbkgeaa
open Go.RowKit Go.Lib Go.Sort Go.Maps
set_option linter.unusedVariables false
set_option linter.unusedSimpArgs false

/-- a file in the place of the one that lies in the same block -/
def repl (f : Hd) (h : Hd) : Hd := if h.fb = f.fb then f else h
section
variable {w w' : World} {base d : Nat} {D : Dsk}
theorem Dk.fb_inj (h : Dk w base d D) {a b : Hd} (ha : a ∈ D.H) (hb : b ∈ D.H) (e : a.fb = b.fb) : a = b := by
  have hn := h.nd
  generalize D.H = H at *
  clear h
  induction H with
  | nil => cases ha
  | cons y l ih =>
    obtain ⟨h1, h2⟩ := List.pairwise_cons.1 hn
    rcases List.mem_cons.1 ha with e1 | ha2
    · rcases List.mem_cons.1 hb with e2 | hb2
      · rw [e1, e2]
      · exact absurd (by rw [← e1]; exact e) (h1 b hb2).1
    · rcases List.mem_cons.1 hb with e2 | hb2
      · exact absurd (by rw [← e2]; exact e.symm) (h1 a ha2).1
      · exact ih ha2 hb2 h2
theorem pair_in {α : Type} {R : α → α → Prop} {L : List α} (h : L.Pairwise R) {a b : α} (ha : a ∈ L) (hb : b ∈ L) : a = b ∨ R a b ∨ R b a := by
  induction L with
  | nil => cases ha
  | cons y l ih =>
    obtain ⟨h1, h2⟩ := List.pairwise_cons.1 h
    rcases List.mem_cons.1 ha with e1 | ha2
    · rcases List.mem_cons.1 hb with e2 | hb2
      · exact .inl (by rw [e1, e2])
      · rw [e1]; exact .inr (.inl (h1 b hb2))
    · rcases List.mem_cons.1 hb with e2 | hb2
      · rw [e2]; exact .inr (.inr (h1 a ha2))
      · exact ih h2 ha2 hb2
theorem Apart.symm {a b : Hd} (h : Apart a b) : Apart b a := ⟨fun e => h.1 e.symm, by
  rcases h.2 with e | e
  · by_cases hb : b.v.ownBlock = none
    · exact .inl hb
    · right; rw [e]; exact hb
  · exact .inr (fun e2 => e e2.symm)⟩
theorem Dk.apart (h : Dk w base d D) {a b : Hd} (ha : a ∈ D.H) (hb : b ∈ D.H) (e : a ≠ b) : Apart a b := by
  rcases pair_in h.nd ha hb with h1 | h1 | h1
  · exact absurd h1 e
  · exact h1
  · exact h1.symm
/-- a file's own block, and the block of its bytes, are no other file's, not the map's, not the disk's -/
theorem Dk.fb_ne (h : Dk w base d D) {f x : Hd} (hf : f ∈ D.H) (hx : x ∈ D.H) (e : x ≠ f) : ∀ k ∈ x.foot, k ≠ f.fb ∧ some k ≠ f.v.ownBlock := fun k hk => by
  have ha := h.apart hx hf e
  have h1 := h.fl f hf
  have h2 := h.fl x hx
  simp only [Hd.foot, List.mem_cons, Option.mem_toList] at hk
  rcases hk with rfl | hk
  · refine ⟨ha.1, fun e2 => ?_⟩
    obtain ⟨cur, hc⟩ := row_has h1.row e2.symm
    rw [h2.blk] at hc
    injection hc with hc
    injection hc with _ hc
    exact absurd hc (by decide)
  · refine ⟨fun e2 => ?_, fun e2 => ?_⟩
    · subst e2
      obtain ⟨cur, hc⟩ := row_has h2.row hk
      rw [h1.blk] at hc
      injection hc with hc
      injection hc with _ hc
      exact absurd hc (by decide)
    · rcases ha.2 with h3 | h3
      · rw [h3] at hk; cases hk
      · exact h3 (hk.trans e2)
theorem Dk.mp_ne (h : Dk w base d D) {f : Hd} (hf : f ∈ D.H) {m : Nat} (hm : D.mp = some m) : m ≠ f.fb ∧ some m ≠ f.v.ownBlock := by
  obtain ⟨_, _, es, clock, h2, _⟩ := (h.mp1 m hm).2.own
  have h1 := h.fl f hf
  refine ⟨fun e => ?_, fun e => ?_⟩
  · subst e
    rw [h1.blk] at h2
    cases h2
  · obtain ⟨cur, hc⟩ := row_has h1.row e.symm
    rw [h2] at hc
    cases hc
theorem Dk.d_ne (h : Dk w base d D) {f : Hd} (hf : f ∈ D.H) : d ≠ f.fb ∧ some d ≠ f.v.ownBlock := by
  refine ⟨fun e => h.d_out ?_, fun e => h.d_out ?_⟩
  · exact List.mem_append.2 (.inr (List.mem_flatMap.2 ⟨f, hf, by simp [Hd.foot, e]⟩))
  · exact List.mem_append.2 (.inr (List.mem_flatMap.2 ⟨f, hf, by simp [Hd.foot, ← e]⟩))
theorem repl_map {H : List Hd} {f f' : Hd} (hn : f'.name = f.name) (hfb : f'.fb = f.fb) (huniq : ∀ x ∈ H, x.fb = f.fb → x = f) : (mapT Hd.key Hd.ptr (H.map (repl f'))) = mapT Hd.key Hd.ptr H := by
  unfold mapT
  rw [List.map_map]
  congr 1
  refine List.map_congr_left fun x hx => ?_
  simp only [Function.comp, repl]
  split
  · rename_i e
    have := huniq x hx (e.trans hfb)
    subst this
    unfold Hd.key Hd.ptr
    rw [hn, hfb]
  · rfl
theorem repl_key {H : List Hd} {f f' : Hd} (hn : f'.name = f.name) (hfb : f'.fb = f.fb) (huniq : ∀ x ∈ H, x.fb = f.fb → x = f) : ∀ x ∈ H, (repl f' x).key = x.key := fun x hx => by
  unfold repl
  split
  · rename_i e
    have := huniq x hx (e.trans hfb)
    subst this
    unfold Hd.key
    rw [hn]
  · rfl
theorem repl_used {H : List Hd} {f f' : Hd} (hf : f ∈ H) (hfb : f'.fb = f.fb) (hn : H.Pairwise Apart) : usedH (H.map (repl f')) + f.b.length = usedH H + f'.b.length := by
  induction H with
  | nil => cases hf
  | cons y l ih =>
    obtain ⟨h1, h2⟩ := List.pairwise_cons.1 hn
    have e : ∀ (y : Hd) (l : List Hd), usedH (y :: l) = y.b.length + usedH l := fun y l => by unfold usedH; simp
    rw [List.map_cons, e, e]
    rcases List.mem_cons.1 hf with rfl | hf
    · have hl : l.map (repl f') = l := by
        have : ∀ x ∈ l, repl f' x = id x := fun x hx => by
          unfold repl
          rw [if_neg (fun e2 => (h1 x hx).1 (by rw [← hfb, e2]))]
          rfl
        rw [List.map_congr_left this, List.map_id]
      have hy : repl f' f = f' := by unfold repl; rw [if_pos hfb.symm]
      rw [hl, hy]
      omega
    · have hy : repl f' y = y := by unfold repl; rw [if_neg (fun e2 => (h1 f hf).1 (e2.trans hfb))]
      rw [hy]
      have := ih hf h2
      omega
/-- a file is changed in its place -/
theorem Dk.upd (h : Dk w base d D) {f f' : Hd} (hf : f ∈ D.H) (hn : f'.name = f.name) (hfb : f'.fb = f.fb) (hnew : FileAt w' base f') (hvb : f'.v.ownBlock = none ∨ f'.v.ownBlock = f.v.ownBlock ∨ ∃ g, f'.v.ownBlock = some g ∧ g ∉ D.foot d)
    (hk : ∀ k, k < w.heap.size → k ≠ f.fb → some k ≠ f.v.ownBlock → w'.heap[k]? = w.heap[k]?) (htot : usedH D.H + f'.b.length ≤ 4194304 + f.b.length) : Dk w' base d { D with H := D.H.map (repl f') } := by
  have hu : ∀ x ∈ D.H, x.fb = f.fb → x = f := fun x hx e => h.fb_inj hx hf e
  have hd := h.d_ne hf
  have hus := repl_used (f' := f') hf hfb h.nd
  have hin : ∀ x ∈ D.H.map (repl f'), x = f' ∨ (x ∈ D.H ∧ x ≠ f) := fun x hx => by
    obtain ⟨y, hy, rfl⟩ := List.mem_map.1 hx
    unfold repl
    split
    · exact .inl rfl
    · rename_i e
      exact .inr ⟨hy, fun e2 => e (by rw [e2, hfb])⟩
  have hap : ∀ x ∈ D.H, x ≠ f → Apart f' x := fun x hx hne => by
    have ha := h.apart hf hx (fun e => hne e.symm)
    refine ⟨fun e => ha.1 (by rw [← hfb, e]), ?_⟩
    rcases hvb with e | e | ⟨g, e, hg⟩
    · exact .inl e
    · rw [e]; exact ha.2
    · right
      intro e2
      rw [e] at e2
      exact hg (foot_fl hx (by simp [Hd.foot, ← e2]))
  refine ⟨h.bd, (hk d h.dlt hd.1 hd.2).trans h.blk, fun e => by show List.map _ D.H = []; rw [h.mp0 e]; rfl, fun m hm => ?_, fun x hx => ?_, ?_, h.r1, h.r2, h.l1, h.l2, by show (List.map _ D.H).length ≤ 128; rw [List.length_map]; exact h.len, by show usedH (List.map _ D.H) ≤ _; omega⟩
  · have hm1 := h.mp1 m hm
    have hmn := h.mp_ne hf hm
    obtain ⟨n, hnn, hown⟩ := (hm1.2.kept (hk m hm1.2.lt hmn.1 hmn.2)).own
    refine ⟨hm1.1, ⟨n, hnn, ?_⟩, ?_⟩
    · show w'.ownsMap _ _ _ _ _ (mapT Hd.key Hd.ptr (D.H.map (repl f')))
      rw [repl_map hn hfb hu]
      exact hown
    · show RiseT Hd.key (D.H.map (repl f'))
      have hr := hm1.2.rise
      unfold RiseT at *
      rw [List.pairwise_map]
      exact List.Pairwise.imp_of_mem (fun {a b} ha hb hab => by rw [repl_key hn hfb hu a ha, repl_key hn hfb hu b hb]; exact hab) hr
  · rcases hin x hx with rfl | ⟨hx1, hx2⟩
    · exact hnew
    · exact (h.fl x hx1).keep fun k hk2 => hk k (h.lt k (foot_fl hx1 hk2)) (h.fb_ne hf hx1 hx2 k hk2).1 (h.fb_ne hf hx1 hx2 k hk2).2
  · show List.Pairwise Apart (List.map _ D.H)
    rw [List.pairwise_map]
    refine List.Pairwise.imp_of_mem (fun {a b} ha hb hab => ?_) h.nd
    unfold repl
    split
    · rename_i e1
      have ea := hu a ha (e1.trans hfb)
      split
      · rename_i e2
        have eb := hu b hb (e2.trans hfb)
        subst ea
        rw [eb] at hab
        exact absurd rfl hab.1
      · rename_i e2
        exact hap b hb (fun e3 => e2 (by rw [e3, hfb]))
    · rename_i e1
      split
      · rename_i e2
        exact (hap a ha (fun e3 => e1 (by rw [e3, hfb]))).symm
      · exact hab
theorem upd_foot {f f' : Hd} (hf : f ∈ D.H) (hfb : f'.fb = f.fb) (hvb : f'.v.ownBlock = none ∨ f'.v.ownBlock = f.v.ownBlock ∨ ∃ g, f'.v.ownBlock = some g ∧ w.heap.size ≤ g) : ∀ k ∈ ({ D with H := D.H.map (repl f') } : Dsk).foot d, k ∈ D.foot d ∨ w.heap.size ≤ k := fun k hk => by
  simp only [Dsk.foot, List.mem_cons, List.mem_append, List.mem_flatMap, Option.mem_toList] at hk ⊢
  rcases hk with rfl | hk | ⟨x, hx, hk⟩
  · exact .inl (.inl rfl)
  · exact .inl (.inr (.inl hk))
  · obtain ⟨y, hy, rfl⟩ := List.mem_map.1 hx
    unfold repl at hk
    split at hk
    · simp only [Hd.foot, List.mem_cons, Option.mem_toList] at hk
      rcases hk with rfl | hk
      · exact .inl (.inr (.inr ⟨f, hf, by simp [Hd.foot, hfb]⟩))
      · rcases hvb with e | e | ⟨g, e, hg⟩
        · rw [e] at hk; cases hk
        · exact .inl (.inr (.inr ⟨f, hf, by simp [Hd.foot, ← e, hk]⟩))
        · rw [e] at hk
          injection hk with hk
          exact .inr (by omega)
    · exact .inl (.inr (.inr ⟨y, hy, hk⟩))
theorem upd_foot2 {f f' : Hd} (hf : f ∈ D.H) (hfb : f'.fb = f.fb) : ∀ k ∈ ({ D with H := D.H.map (repl f') } : Dsk).foot d, k ∈ D.foot d ∨ f'.v.ownBlock = some k := fun k hk => by
  simp only [Dsk.foot, List.mem_cons, List.mem_append, List.mem_flatMap, Option.mem_toList] at hk ⊢
  rcases hk with rfl | hk | ⟨x, hx, hk⟩
  · exact .inl (.inl rfl)
  · exact .inl (.inr (.inl hk))
  · obtain ⟨y, hy, rfl⟩ := List.mem_map.1 hx
    unfold repl at hk
    split at hk
    · simp only [Hd.foot, List.mem_cons, Option.mem_toList] at hk
      rcases hk with rfl | hk
      · exact .inl (.inr (.inr ⟨f, hf, by simp [Hd.foot, hfb]⟩))
      · exact .inr hk
    · exact .inl (.inr (.inr ⟨y, hy, hk⟩))
end
end Go.Proofs.Ytebkgcnldbkgeaa
