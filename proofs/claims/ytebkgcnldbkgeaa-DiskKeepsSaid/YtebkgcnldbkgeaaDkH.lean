/-
  A disk's files as data; what is carried from one world to a later one.
-/
import Derived.Test.YtebkgcnldbkgeaaDkG
namespace Go.Proofs.Ytebkgcnldbkgeaa
open Go.RowKit Go.Lib Go.Sort Go.Maps
set_option linter.unusedVariables false
set_option linter.unusedSimpArgs false

/-- a file as data -/
structure Fl where
  name : ByteArray
  b : List UInt8
  kept : Nat
def Fl.key (f : Fl) : List UInt8 := f.name.data.toList
def Hd.f (h : Hd) : Fl := ⟨h.name, h.b, h.kept⟩
def filesD (D : Dsk) : List Fl := D.H.map Hd.f
def addF (s : ByteArray) (x : List UInt8) (F : List Fl) : List Fl := F.map fun f => if f.name = s then { f with b := f.b ++ x } else f
def mkF (s : ByteArray) (F : List Fl) : List Fl := if (getT Fl.key F s.data.toList).isSome then F else insT Fl.key ⟨s, [], 0⟩ F
theorem addF_nil (s : ByteArray) (F : List Fl) : addF s [] F = F := by
  unfold addF
  have : ∀ f ∈ F, (if f.name = s then { f with b := f.b ++ [] } else f) = id f := fun f _ => by
    split
    · rw [List.append_nil]; rfl
    · rfl
  rw [List.map_congr_left this, List.map_id]
theorem addF_add (s : ByteArray) (x y : List UInt8) (F : List Fl) : addF s y (addF s x F) = addF s (x ++ y) F := by
  unfold addF
  rw [List.map_map]
  refine List.map_congr_left fun f _ => ?_
  simp only [Function.comp]
  by_cases e : f.name = s
  · rw [if_pos e, if_pos e, if_pos e, List.append_assoc]
  · rw [if_neg e, if_neg e, if_neg e]
theorem key_name {a b : ByteArray} (h : a.data.toList = b.data.toList) : a = b := ByteArray.ext (Array.toList_inj.1 h)
theorem get_files (D : Dsk) (k : List UInt8) : getT Fl.key (filesD D) k = (getT Hd.key D.H k).map Hd.f := by
  unfold filesD getT
  rw [List.find?_map]
  rfl
theorem ins_files (h : Hd) (H : List Hd) : (insT Hd.key h H).map Hd.f = insT Fl.key h.f (H.map Hd.f) := by
  induction H with
  | nil => rfl
  | cons y l ih =>
    have e1 : ∀ x : Hd, Fl.key x.f = x.key := fun _ => rfl
    rw [List.map_cons]
    unfold insT
    rw [e1, e1]
    split
    · rfl
    · rw [List.map_cons, ih]
/-- what a call leaves -/
structure Then (base d : Nat) (w w' : World) (D D' : Dsk) : Prop where
  dk : Dk w' base d D'
  tu : Turn (D.foot d) w w'
  ft : ∀ k ∈ D'.foot d, k ∈ D.foot d ∨ w.heap.size ≤ k
section
variable {w w' w'' : World} {base d : Nat} {D D' D'' : Dsk}
theorem Then.refl (h : Dk w base d D) : Then base d w w D D := ⟨h, Turn.refl _ _, fun k hk => .inl hk⟩
theorem Then.trans (h : Then base d w w' D D') (h' : Then base d w' w'' D' D'') : Then base d w w'' D D'' :=
  ⟨h'.dk, h.tu.trans h'.tu h.ft, fun k hk => (h'.ft k hk).elim (h.ft k) (fun h2 => .inr (Nat.le_trans h.tu.size h2))⟩
theorem Then.of_below (h : Dk w base d D) (hb : Below w.heap.size w w') : Then base d w w' D D := ⟨h.below hb (Nat.le_refl _), Turn.of_below hb, fun k hk => .inl hk⟩
theorem Then.below_ (h : Then base d w w' D D') (hb : Below w'.heap.size w' w'') : Then base d w w'' D D' := h.trans (Then.of_below h.dk hb)
/-- a block that is not the disk's stays -/
theorem Then.block (h : Then base d w w' D D') {k : Nat} (hk : k < w.heap.size) (hn : k ∉ D.foot d) : w'.heap[k]? = w.heap[k]? := h.tu.block k hk hn
theorem Then.cell (h : Then base d w w' D D') {k i : Nat} {v : Value} (hc : w.cell? ⟨k, i, none⟩ = some v) (hk : k < w.heap.size) (hn : k ∉ D.foot d) : w'.cell? ⟨k, i, none⟩ = some v := (World.cell?_of_block (a := ⟨k, i, none⟩) (h.block hk hn)).trans hc
/-- bytes are added to a file: the append, and the store -/
theorem Then.added (h : Dk w base d D) {f : Hd} (hf : f ∈ D.H) {v' : Value} {x : List UInt8} {w1 : World} (hown : w1.ownsRow base 5 1 v' (f.b.length + x.length) (bvs f.b ++ bvs x)) (hg : w.grownBy w1 f.v.ownBlock) (hat : v'.ownBlock = f.v.ownBlock ∨ v'.ownBlock = some w.heap.size)
    (htot : usedH D.H + x.length ≤ 4194304) : ∃ D', Then base d w (w1.setCell ⟨f.fb, 0, none⟩ v') D D' ∧ filesD D' = addF f.name x (filesD D) ∧ D'.mp = D.mp ∧ D'.room = D.room ∧ D'.set = D.set ∧ D'.left = D.left ∧ ∃ f', D'.at_ f.name = some f' ∧ f'.fb = f.fb ∧ usedH D'.H = usedH D.H + x.length ∧ D'.H.length = D.H.length := by
  have hfl := h.fl f hf
  have hfbl := (Array.getElem?_eq_some_iff.1 hfl.blk).1
  have hne : some f.fb ≠ f.v.ownBlock := fun e => by
    obtain ⟨cur, hc⟩ := row_has hfl.row e.symm
    rw [hfl.blk] at hc
    injection hc with hc
    injection hc with _ hc
    exact absurd hc (by decide)
  have hb1 := (hg.block f.fb hfbl hne).trans hfl.blk
  have hbs : (w1.setCell ⟨f.fb, 0, none⟩ v').heap[f.fb]? = some (.cells #[v', .int .i64 (f.kept : Int)] 64 (0, 0)) := by rw [heap_setCell_same w1 _ 0 _ _ _ hb1]; rfl
  have hnew : FileAt (w1.setCell ⟨f.fb, 0, none⟩ v') base { f with v := v', b := f.b ++ x } := by
    refine ⟨hfl.bf, hbs, ?_, ?_, hfl.name⟩
    · refine row_same ?_ (fun g hg2 => Below.heap_setCell w1 _ _ g (fun e => ?_))
      · rw [bvs_append, List.length_append]; exact hown
      · have e' : g = f.fb := e
        subst e'
        rcases hat with h2 | h2
        · exact hne (by rw [← h2, ← hg2])
        · have h3 : v'.ownBlock = some f.fb := hg2
          rw [h2] at h3
          injection h3 with h3
          omega
    · show f.kept ≤ (f.b ++ x).length
      rw [List.length_append]
      have := hfl.kept
      omega
  have hvb : ({ f with v := v', b := f.b ++ x } : Hd).v.ownBlock = none ∨ ({ f with v := v', b := f.b ++ x } : Hd).v.ownBlock = f.v.ownBlock ∨ ∃ g, ({ f with v := v', b := f.b ++ x } : Hd).v.ownBlock = some g ∧ w.heap.size ≤ g := by
    rcases hat with e | e
    · exact .inr (.inl e)
    · exact .inr (.inr ⟨_, e, Nat.le_refl _⟩)
  have hk : ∀ k, k < w.heap.size → k ≠ f.fb → some k ≠ f.v.ownBlock → (w1.setCell ⟨f.fb, 0, none⟩ v').heap[k]? = w.heap[k]? := fun k hk h1 h2 => (Below.heap_setCell w1 _ _ k (fun e => h1 e)).trans (hg.block k hk h2)
  have hu : ∀ y ∈ D.H, y.fb = f.fb → y = f := fun y hy e => h.fb_inj hy hf e
  have hdk := h.upd (f' := { f with v := v', b := f.b ++ x }) hf rfl rfl hnew (hvb.imp_right fun h2 => h2.imp_right fun ⟨g, e, hg⟩ => ⟨g, e, fun h3 => by have := h.lt g h3; omega⟩) hk (by show _ + (f.b ++ x).length ≤ _; rw [List.length_append]; omega)
  refine ⟨_, ⟨hdk, ?_, upd_foot (w := w) hf rfl hvb⟩, ?_, rfl, rfl, rfl, rfl, { f with v := v', b := f.b ++ x }, ?_, rfl, ?_, by show (List.map _ D.H).length = _; rw [List.length_map]⟩
  · refine ⟨by rw [World.setCell]; exact hg.os, by rw [World.setCell]; exact hg.tape, by rw [World.setCell]; exact hg.output, by simp; exact hg.size, fun k hk2 hn => hk k hk2 (fun e => hn ?_) (fun e => hn ?_)⟩
    · rw [e]; exact foot_fl hf (by simp [Hd.foot])
    · exact foot_fl hf (by simp [Hd.foot, ← e])
  · show (D.H.map _).map Hd.f = addF _ _ (D.H.map Hd.f)
    unfold addF
    rw [List.map_map, List.map_map]
    refine List.map_congr_left fun y hy => ?_
    simp only [Function.comp, repl]
    by_cases e : y.fb = f.fb
    · have := hu y hy e
      subst this
      rw [if_pos rfl, if_pos (show y.f.name = y.name from rfl)]
      rfl
    · rw [if_neg e, if_neg]
      intro e2
      have e3 : y.key = f.key := by unfold Hd.key; rw [show y.name = f.name from e2]
      have hr : RiseT Hd.key D.H := by
        cases hm : D.mp with
        | none => rw [h.mp0 hm] at hf; cases hf
        | some m => exact (h.mp1 m hm).2.rise
      exact e (by rw [rise_inj Hd.key hr hy hf e3])
  · have hm : ({ f with v := v', b := f.b ++ x } : Hd) ∈ D.H.map (repl { f with v := v', b := f.b ++ x }) := List.mem_map.2 ⟨f, hf, by unfold repl; rw [if_pos rfl]⟩
    have hr : RiseT Hd.key (D.H.map (repl { f with v := v', b := f.b ++ x })) := by
      cases hm2 : D.mp with
      | none => rw [h.mp0 hm2] at hf; cases hf
      | some m => exact (hdk.mp1 m hm2).2.rise
    exact getT_of_mem Hd.key hr hm
  · have h1 := repl_used (f' := { f with v := v', b := f.b ++ x }) hf rfl h.nd
    show usedH (D.H.map _) = _
    have h2 : ({ f with v := v', b := f.b ++ x } : Hd).b.length = f.b.length + x.length := List.length_append
    omega
end
end Go.Proofs.Ytebkgcnldbkgeaa
