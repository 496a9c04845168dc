/-
  The document's disk: Append.
-/
import Derived.Test.YtebkgcnldbkgeaaDpF
import Derived.Test.YtebkgcnldbkgeaaDkT
import Derived.Laws.OwnMore
namespace Go.Proofs.Ytebkgcnldbkgeaa
open Go.RowKit Go.Lib Go.Sort Go.Maps
set_option linter.unusedVariables false
set_option linter.unusedSimpArgs false

theorem fcs_set (F : List Fl) : ∀ (i j : Nat) (f' : Fl) (u : Value), i < F.length → j < 3 → f'.cells = ((F.getD i default).cells).set j u → (fcs F).set (i * 3 + j) u = fcs (F.set i f') := by
  induction F with
  | nil => intro i j f' u h; exact absurd h (by simp)
  | cons y l ih =>
    intro i j f' u h hj he
    have e : ∀ (y : Fl) (l : List Fl), fcs (y :: l) = y.cells ++ fcs l := fun y l => by simp [fcs]
    have hl : y.cells.length = 3 := rfl
    rw [e]
    cases i with
    | zero =>
      rw [Nat.zero_mul, Nat.zero_add, List.set_append_left _ _ (by omega)]
      show _ = fcs (f' :: l)
      rw [e, he]
      rfl
    | succ i =>
      rw [List.set_append_right _ _ (by omega), show (i + 1) * 3 + j - y.cells.length = i * 3 + j from by omega, ih i j f' u (by simpa using h) hj (by simpa using he)]
      show _ = fcs (y :: l.set i f')
      rw [e]
section
variable {w : World} {base r n c : Nat} {A : Option Addr} {p : PD}
theorem addk (g k : Nat) : ((⟨g, 0, none⟩ : Addr).add k) = ⟨g, k, none⟩ := by
  unfold Addr.add
  by_cases h : k = 0
  · simp [h]
  · simp [h]
theorem Rk.elem (h : Rk w base r (.slice A n c) p) (hn : p.F.length = n) {i j : Nat} (hi : i < n) (hj : j < 3) {f' : Fl} {u : Value} (hu : f'.cells = ((p.F.getD i default).cells).set j u) :
    ∃ q, A = some q ∧ w.frozen? ⟨(q.add (i * 3)).block, (q.add (i * 3)).off + j, none⟩ = false ∧ RT base r w (w.setCell ⟨(q.add (i * 3)).block, (q.add (i * 3)).off + j, none⟩ u) (.slice A n c) (.slice A n c) { p with F := p.F.set i f' } := by
  have hrow := h.row
  rw [hn] at hrow
  have hfar := h.far
  rcases hrow.2 with ⟨h2, h3⟩ | ⟨g, cap, cur, h2, hb, hh, hc, hcm, hs, ht⟩
  · omega
  · injection h2 with e1 e2 e3
    subst e1
    subst e3
    have e4 : (⟨((⟨g, 0, none⟩ : Addr).add (i * 3)).block, ((⟨g, 0, none⟩ : Addr).add (i * 3)).off + j, none⟩ : Addr) = ⟨g, i * 3 + j, none⟩ := by rw [addk]

    obtain ⟨h5, h6⟩ := World.ownsRow.stored hrow (i * 3 + j) u
    refine ⟨_, rfl, ?_, ?_⟩
    · rw [e4]
      exact World.ownsRow.frozenAt hrow _
    · rw [e4]
      rw [fcs_set p.F i j f' u (by omega) hj hu] at h5
      have hgr : g ≠ r := fun e => hfar (by rw [e]; rfl)
      refine ⟨⟨h.br, (h6.block r h.rlt (fun e => hgr (by injection e with e; exact e.symm))).trans h.blk, ?_⟩, Turn.of_grown h6 (List.mem_cons_of_mem _ (by simp [Value.ownBlock])), fun k e => .inl e⟩
      show World.ownsRow _ base _ 3 _ (p.F.set i f').length _
      rw [List.length_set, hn]
      exact h5
end
theorem map_one {F : List Fl} (hr : RiseT Fl.key F) {s : ByteArray} {i : Nat} (hi : i < F.length) (hs : (F.getD i default).name = s) (g : Fl → Fl) : F.map (fun f => if f.name = s then g f else f) = F.set i (g (F.getD i default)) := by
  have hg : F.getD i default = F[i] := by rw [List.getD_eq_getElem?_getD, List.getElem?_eq_getElem hi]; rfl
  refine List.ext_getElem (by simp) fun j h1 h2 => ?_
  have hj : j < F.length := by simpa using h1
  rw [List.getElem_map, List.getElem_set]
  by_cases e : i = j
  · subst e
    rw [if_pos rfl, ← hg, if_pos hs]
  · rw [if_neg e, if_neg]
    intro e2
    rw [hg] at hs
    have h3 : F[i] = F[j] := rise_inj Fl.key hr (List.getElem_mem hi) (List.getElem_mem hj) (by unfold Fl.key; rw [hs, e2])
    have h4 := List.pairwise_iff_getElem.1 hr
    rcases Nat.lt_or_gt_of_ne e with h5 | h5
    · exact ltT_ne (h4 i j hi hj h5) (by rw [h3])
    · exact ltT_ne (h4 j i hj hi h5) (by rw [h3])
theorem getT_name {F : List Fl} {s : ByteArray} {f : Fl} (h : getT Fl.key F s.data.toList = some f) : f.name = s := key_name (getT_key Fl.key h)
theorem add_none {F : List Fl} {s : ByteArray} (x : List UInt8) (h : getT Fl.key F s.data.toList = none) : addF s x (mkF s F) = insF ⟨s, x, 0⟩ F := by
  unfold mkF
  rw [h]
  show addF s x (insT Fl.key ⟨s, [], 0⟩ F) = insT Fl.key ⟨s, x, 0⟩ F
  have hn := getT_none Fl.key h
  clear h
  induction F with
  | nil => show [_] = [_]; simp
  | cons y l ih =>
    have hy : y.name ≠ s := fun e => hn y (by simp) (key_iff.2 e)
    have hl := ih (fun r hr => hn r (by simp [hr]))
    have hid : addF s x l = l := by
      unfold addF
      have : ∀ f ∈ l, (if f.name = s then { f with b := f.b ++ x } else f) = id f := fun f hf => by rw [if_neg (fun e => hn f (by simp [hf]) (key_iff.2 e))]; rfl
      rw [List.map_congr_left this, List.map_id]
    have e1 : ∀ b, Fl.key ⟨s, b, 0⟩ = s.data.toList := fun _ => rfl
    unfold insT
    rw [e1, e1]
    split
    · unfold addF at hid ⊢
      rw [List.map_cons, List.map_cons, if_pos rfl, if_neg hy, hid]
      rfl
    · have e2 : ∀ a b, addF s x (a :: b) = (if a.name = s then { a with b := a.b ++ x } else a) :: addF s x b := fun a b => by unfold addF; rw [List.map_cons]
      rw [e2, if_neg hy, hl]
theorem add_some {F : List Fl} (hr : RiseT Fl.key F) {s : ByteArray} {f : Fl} {i : Nat} (x : List UInt8) (h : getT Fl.key F s.data.toList = some f) (hi : i < F.length) (hf : F.getD i default = f) : addF s x (mkF s F) = F.set i { f with b := f.b ++ x } := by
  unfold mkF
  rw [h]
  show addF s x F = _
  unfold addF
  rw [map_one hr hi (by rw [hf]; exact getT_name h) (fun f => { f with b := f.b ++ x }), hf]
theorem bst_append (l : List UInt8) (s : ByteArray) : bst l ++ s = bst (l ++ s.data.toList) := by
  refine ByteArray.ext ?_
  rw [ByteArray.data_append]
  unfold bst
  refine Array.toList_inj.1 ?_
  simp
end Go.Proofs.Ytebkgcnldbkgeaa
