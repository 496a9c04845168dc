/-
  A disk beside the document's, with the same data; what calls of both leave.
-/
import Derived.Test.YtebkgcnldbkgeaaDpN
import Derived.Test.YtebkgcnldbkgeaaDkXc
namespace Go.Proofs.Ytebkgcnldbkgeaa
open Go.RowKit Go.Lib Go.Sort Go.Maps
set_option linter.unusedVariables false
set_option linter.unusedSimpArgs false

/-- a disk and the document's: one and the same data, in memory that lies apart -/
structure TD (w : World) (base d r : Nat) (D : Dsk) (v : Value) (p : PD) : Prop where
  dk : Dk w base d D
  pe : pd D = p
  rk : Rk w base r v p
  sep : ∀ k ∈ D.foot d, k ∉ rfoot r v
/-- what a step leaves -/
structure TS (base : Nat) (W W' : World) (d r : Nat) (D : Dsk) (v : Value) (d' r' : Nat) (D' : Dsk) (v' : Value) (p' : PD) : Prop where
  td : TD W' base d' r' D' v' p'
  tu : Turn (D.foot d ++ rfoot r v) W W'
  ft : ∀ k ∈ D'.foot d' ++ rfoot r' v', k ∈ D.foot d ++ rfoot r v ∨ W.heap.size ≤ k
section
variable {w W W1 W2 W3 : World} {base d r d' r' d'' r'' : Nat} {D D' D'' : Dsk} {v v' v'' : Value} {p p' p'' : PD}
theorem TD.ok (h : TD W base d r D v p) : p.Ok := by rw [← h.pe]; exact h.dk.ok
theorem TD.lt (h : TD W base d r D v p) : ∀ k ∈ D.foot d ++ rfoot r v, k < W.heap.size := fun k hk => (List.mem_append.1 hk).elim (h.dk.lt k) (h.rk.lt k)
theorem TD.le (h : TD W base d r D v p) : ∀ k ∈ D.foot d ++ rfoot r v, base ≤ k := fun k hk => (List.mem_append.1 hk).elim (h.dk.base_le k) (h.rk.le k)
theorem TD.keep (h : TD W base d r D v p) (hk : ∀ k ∈ D.foot d ++ rfoot r v, W1.heap[k]? = W.heap[k]?) : TD W1 base d r D v p :=
  ⟨h.dk.keep fun k h2 => hk k (List.mem_append.2 (.inl h2)), h.pe, h.rk.keep fun k h2 => hk k (List.mem_append.2 (.inr h2)), h.sep⟩
theorem TD.below {B : Nat} (h : TD W base d r D v p) (hb : Below B W W1) (hB : W.heap.size ≤ B) : TD W1 base d r D v p := h.keep fun k hk => hb.block k (Nat.lt_of_lt_of_le (h.lt k hk) hB)
theorem TS.of_below (h : TD W base d r D v p) (hb : Below W.heap.size W W1) : TS base W W1 d r D v d r D v p := ⟨h.below hb (Nat.le_refl _), Turn.of_below hb, fun k hk => .inl hk⟩
theorem TS.trans (h : TS base W W1 d r D v d' r' D' v' p') (h' : TS base W1 W2 d' r' D' v' d'' r'' D'' v'' p'') : TS base W W2 d r D v d'' r'' D'' v'' p'' :=
  ⟨h'.td, h.tu.trans h'.tu h.ft, fun k hk => (h'.ft k hk).elim (h.ft k) (fun h2 => .inr (Nat.le_trans h.tu.size h2))⟩
theorem TS.below_ (h : TS base W W1 d r D v d' r' D' v' p') (hb : Below W1.heap.size W1 W2) : TS base W W2 d r D v d' r' D' v' p' := h.trans (TS.of_below h.td hb)
theorem TS.below (h : TS base W W1 d r D v d' r' D' v' p') (h0 : TD W base d r D v p) (hB : base ≤ W.heap.size) : Below base W W1 := h.tu.below h0.le hB
/-- the program's disk was changed: the document's stands as it was -/
theorem TD.rk_then (h : TD W base d r D v p) (ht : Then base d W W1 D D') : Rk W1 base r v p := h.rk.keep fun k hk => ht.block (h.rk.lt k hk) fun h2 => h.sep k h2 hk
theorem TD.two (h : TD W base d r D v p) (ht : Then base d W W1 D D') (hr : RT base r W1 W2 v v' p') (hp : pd D' = p') : TS base W W2 d r D v d r D' v' p' := by
  have hs1 : ∀ k ∈ D'.foot d, k ∉ rfoot r v := fun k hk h2 => (ht.ft k hk).elim (fun h3 => h.sep k h3 h2) (fun h3 => by have := h.rk.lt k h2; omega)
  have hsz := ht.tu.size
  refine ⟨⟨ht.dk.keep fun k hk => hr.tu.block k (ht.dk.lt k hk) (hs1 k hk), hp, hr.rk, fun k hk h2 => ?_⟩, ?_, fun k hk => ?_⟩
  · rcases hr.foot k h2 with h3 | h3
    · exact hs1 k hk h3
    · have := ht.dk.lt k hk; omega
  · exact (ht.tu.mono fun k hk => List.mem_append.2 (.inl hk)).trans hr.tu fun k hk => .inl (List.mem_append.2 (.inr hk))
  · rcases List.mem_append.1 hk with hk | hk
    · exact (ht.ft k hk).imp (fun h2 => List.mem_append.2 (.inl h2)) id
    · exact (hr.foot k hk).imp (fun h2 => List.mem_append.2 (.inr h2)) (fun h2 => Nat.le_trans hsz h2)
/-- the document's call behind the program's -/
theorem TD.second (h : TD W base d r D v p) (hb : base ≤ W.heap.size) {q : Nat × PD} {f : Nat} {args : Array Value} (ht : Then base d W W1 D D') (hp : pd D' = q.2) (hB : Below W1.heap.size W1 W2) (hC : Rk W2 base r v p → base ≤ W2.heap.size → Calls Try.prog f args W2 (RAns base r W2 v q)) :
    Calls Try.prog f args W2 fun e w' => e = .returned (.int .i64 (q.1 : Int)) ∧ ∃ v', TS base W w' d r D v d r D' v' q.2 := by
  have hrk := (h.rk_then ht).below hB (Nat.le_refl _)
  refine (hC hrk (by have := ht.tu.size; have := hB.size; omega)).mono fun e w' hh => ?_
  obtain ⟨he, v', hr⟩ := hh
  exact ⟨he, v', h.two (ht.below_ hB) hr hp⟩
end
/-! ### the calls of the disk, at a world behind new memory -/
section
variable {W W3 : World} {base d r : Nat} {D : Dsk} {v : Value} {p : PD}
theorem TD.append2 (h : TD W base d r D v p) (hb : base ≤ W.heap.size) (hW : Below W.heap.size W W3) (s s1 s2 : ByteArray) (hs : s.size ≤ 1099511627776) (g1 g2 c1 c2 : Nat) (T : TypeId) (b1 : W.heap.size ≤ g1) (b2 : W.heap.size ≤ g2) (l1 : g1 < W3.heap.size) (l2 : g2 < W3.heap.size)
    (k1 : s1.size ≤ c1) (k2 : c1 ≤ maxLen) (k3 : s2.size ≤ c2) (k4 : c2 ≤ maxLen)
    (hB1 : ∀ V : World, V.heap[g1]? = W3.heap[g1]? → Bs V (g1 + 1) (some ⟨g1, 0, none⟩) s1.size s1.data.toList) (hB2 : ∀ V : World, V.heap[g2]? = W3.heap[g2]? → Bs V (g2 + 1) (some ⟨g2, 0, none⟩) s2.size s2.data.toList) :
    Calls Try.prog 26 #[.pointer (some ⟨d, 0, none⟩), .string s, .slice (some ⟨W3.heap.size, 0, none⟩) 2 2] (W3.alloc (.cells #[.slice (some ⟨g1, 0, none⟩) s1.size c1, .slice (some ⟨g2, 0, none⟩) s2.size c2] T)) fun e w' => e = .returned (.int .i64 ((p.append s (s1.data.toList ++ s2.data.toList)).1 : Int)) ∧ ∃ D', Then base d W w' D D' ∧ pd D' = (p.append s (s1.data.toList ++ s2.data.toList)).2 := by
  have hal := hW.alloc hW.size (.cells #[.slice (some ⟨g1, 0, none⟩) s1.size c1, .slice (some ⟨g2, 0, none⟩) s2.size c2] T)
  have hnew := heap_alloc_new W3 (.cells #[.slice (some ⟨g1, 0, none⟩) s1.size c1, .slice (some ⟨g2, 0, none⟩) s2.size c2] T)
  have hd := h.dk.below hal (Nat.le_refl _)
  have hlt := h.dk.lt
  have h1 := append_pd base d D s (some ⟨W3.heap.size, 0, none⟩) 2 2 [s1.data.toList, s2.data.toList] _ hd (Nat.le_trans hb hal.size) hs (by decide) (fun V hV => by
    have hk : ∀ k, W.heap.size ≤ k → k < W3.heap.size + 1 → V.heap[k]? = (W3.alloc (.cells #[.slice (some ⟨g1, 0, none⟩) s1.size c1, .slice (some ⟨g2, 0, none⟩) s2.size c2] T)).heap[k]? := fun k h1 h2 => hV.block k (by simp; omega) (fun h3 => by have := hlt k h3; omega)
    have hsz := hV.size
    simp at hsz
    have e0 := (hk W3.heap.size hW.size (by omega)).trans hnew
    have e1 : V.heap[g1]? = W3.heap[g1]? := (hk g1 b1 (by omega)).trans (Below.heap_alloc _ _ _ l1)
    have e2 : V.heap[g2]? = W3.heap[g2]? := (hk g2 b2 (by omega)).trans (Below.heap_alloc _ _ _ l2)
    refine ⟨rfl, fun k hk2 => ?_⟩
    rcases (show k = 0 ∨ k = 1 by omega) with rfl | rfl
    · have hl : s1.data.toList.length = s1.size := str_len s1
      refine ⟨_, some ⟨g1, 0, none⟩, c1, rfl, (Array.getElem?_eq_some_iff.1 e0).1, ?_, ?_, k2, ?_⟩
      · show V.cell? _ = some (.slice _ (s1.data.toList.length : Nat) c1)
        rw [hl]
        exact World.news_of_block e0 0 _ rfl
      · show s1.data.toList.length ≤ c1
        rw [hl]; exact k1
      · show Bs V _ _ s1.data.toList.length s1.data.toList
        rw [hl]
        exact (hB1 V e1).wider (by omega)
    · have hl : s2.data.toList.length = s2.size := str_len s2
      refine ⟨_, some ⟨g2, 0, none⟩, c2, rfl, (Array.getElem?_eq_some_iff.1 e0).1, ?_, ?_, k4, ?_⟩
      · show V.cell? _ = some (.slice _ (s2.data.toList.length : Nat) c2)
        rw [hl]
        exact World.news_of_block e0 1 _ rfl
      · show s2.data.toList.length ≤ c2
        rw [hl]; exact k3
      · show Bs V _ _ s2.data.toList.length s2.data.toList
        rw [hl]
        exact (hB2 V e2).wider (by omega))
  have hfl : [s1.data.toList, s2.data.toList].flatten = s1.data.toList ++ s2.data.toList := by simp
  rw [hfl, h.pe] at h1
  refine h1.mono fun e w' hh => ?_
  obtain ⟨D', he, ht, hq⟩ := hh
  exact ⟨he, D', (Then.of_below h.dk hal).trans ht, hq⟩
theorem TD.sync1 (h : TD W base d r D v p) (hb : base ≤ W.heap.size) (hW : Below W.heap.size W W3) (s : ByteArray) (hs : s.size ≤ 1099511627776) (T : TypeId) :
    Calls Try.prog 14 #[.pointer (some ⟨d, 0, none⟩), .slice (some ⟨W3.heap.size, 0, none⟩) 1 1] (W3.alloc (.cells #[.string s] T)) fun e w' => e = .returned (.int .i64 ((p.sync [s]).1 : Int)) ∧ ∃ D', Then base d W w' D D' ∧ pd D' = (p.sync [s]).2 := by
  have hal := hW.alloc hW.size (.cells #[.string s] T)
  have hnew := heap_alloc_new W3 (.cells #[.string s] T)
  have hd := h.dk.below hal (Nat.le_refl _)
  have h1 := sync_pd base d D (some ⟨W3.heap.size, 0, none⟩) 1 1 [s] _ hd (Nat.le_trans hb hal.size) (by decide) (by decide) (by
    refine ⟨rfl, fun k hk => ?_⟩
    obtain rfl : k = 0 := by omega
    exact ⟨_, rfl, (Array.getElem?_eq_some_iff.1 hnew).1, fun h2 => by have := h.dk.lt W3.heap.size h2; have := hW.size; omega, World.news_of_block hnew 0 _ rfl, hs⟩)
  rw [h.pe] at h1
  refine h1.mono fun e w' hh => ?_
  obtain ⟨D', he, ht, hq⟩ := hh
  exact ⟨he, D', (Then.of_below h.dk hal).trans ht, hq⟩
theorem TD.rsync1 (h : TD W base d r D v p) (hb : base ≤ W.heap.size) (s : ByteArray) (hs : s.size ≤ 1099511627776) (T : TypeId) {W1 : World} {D' : Dsk} (ht : Then base d W W1 D D') (hp : pd D' = (p.sync [s]).2) {W2 : World} (hB : Below W1.heap.size W1 W2) :
    Calls Try.prog 42 #[.pointer (some ⟨r, 0, none⟩), .slice (some ⟨W2.heap.size, 0, none⟩) 1 1] (W2.alloc (.cells #[.string s] T)) fun e w' => e = .returned (.int .i64 ((p.sync [s]).1 : Int)) ∧ ∃ v', TS base W w' d r D v d r D' v' (p.sync [s]).2 :=
  h.second hb ht hp (hB.alloc hB.size _) fun hr hb2 => by
    have hnew := heap_alloc_new W2 (.cells #[.string s] T)
    have h1 := rsync_any base r v p (some ⟨W2.heap.size, 0, none⟩) 1 1 [s] _ hr h.ok hb2 (by decide) (by
      refine ⟨rfl, fun k hk => ?_⟩
      obtain rfl : k = 0 := by omega
      exact ⟨_, rfl, (Array.getElem?_eq_some_iff.1 hnew).1, fun h2 => by have := h.rk.lt W2.heap.size h2; have := ht.tu.size; have := hB.size; omega, World.news_of_block hnew 0 _ rfl, hs⟩)
    rw [syncR_some _ _ (by simp)] at h1
    exact h1
end
end Go.Proofs.Ytebkgcnldbkgeaa
