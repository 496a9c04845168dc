/-
  What awake of law 4 does: chapter 4's example comes out true.
-/
import Derived.Test.YtebkgcnldbkgeaaDkQ
import Derived.Lib.SlBytesConst
namespace Go.Proofs.Ytebkgcnldbkgeaa
open Go.RowKit Go.Lib Go.Sort Go.Maps
set_option linter.unusedVariables false
set_option linter.unusedSimpArgs false

/-- a disk as pure data in memory, and values of one's own beside it -/
def Aw (w W : World) (d : Nat) (p : PD) (X : List (Value × List UInt8)) : Prop :=
  ∃ D, Dk W w.heap.size d D ∧ pd D = p ∧ Below w.heap.size w W ∧ ∀ x ∈ X, Own W w.heap.size x.1 x.2 ∧ ∀ g, x.1.ownBlock = some g → g ∉ D.foot d
section
variable {w W W' : World} {d : Nat} {p p' : PD} {X : List (Value × List UInt8)}
theorem Aw.below (h : Aw w W d p X) : Below w.heap.size w W := h.elim fun _ h => h.2.2.1
theorem Aw.next (h : Aw w W d p X) (hb : Below W.heap.size W W') : Aw w W' d p X := by
  obtain ⟨D, h1, h2, h3, h4⟩ := h
  refine ⟨D, h1.below hb (Nat.le_refl _), h2, h3.trans (hb.mono h3.size), fun x hx => ⟨row_same (h4 x hx).1 fun g hg => hb.block g ((h4 x hx).1.lt g hg).2, (h4 x hx).2⟩⟩
theorem Aw.call (h : Aw w W d p X) {D D' : Dsk} (hD : Dk W w.heap.size d D ∧ pd D = p ∧ ∀ x ∈ X, ∀ g, x.1.ownBlock = some g → g ∉ D.foot d) (ht : Then w.heap.size d W W' D D') (hp : pd D' = p') : Aw w W' d p' X := by
  obtain ⟨D0, _, _, h3, h4⟩ := h
  have hlo : ∀ k ∈ D.foot d, w.heap.size ≤ k := fun k hk => hD.1.base_le k hk
  refine ⟨D', ht.dk, hp, h3.trans (ht.tu.below hlo h3.size), fun x hx => ⟨row_same (h4 x hx).1 fun g hg => ht.block ((h4 x hx).1.lt g hg).2 (hD.2.2 x hx g hg), fun g hg h2 => ?_⟩⟩
  rcases ht.ft g h2 with h5 | h5
  · exact hD.2.2 x hx g hg h5
  · have := ((h4 x hx).1.lt g hg).2
    omega
theorem Aw.push (h : Aw w W d p X) {v : Value} {l : List UInt8} (hb : Below W.heap.size W W') (ho : Own W' W.heap.size v l) : Aw w W' d p ((v, l) :: X) := by
  have h' := h.next hb
  obtain ⟨D, h1, h2, h3, h4⟩ := h
  obtain ⟨D', k1, k2, k3, k4⟩ := h'
  have hz := h3.size
  refine ⟨D, h1.below hb (Nat.le_refl _), h2, k3, fun x hx => ?_⟩
  rcases List.mem_cons.1 hx with rfl | hx
  · refine ⟨?_, fun g hg h5 => ?_⟩
    · refine ⟨ho.1, ?_⟩
      rcases ho.2 with h | ⟨b2, cap, cur2, e, hb2, h⟩
      · exact .inl h
      · exact .inr ⟨b2, cap, cur2, e, Nat.le_trans hz hb2, h⟩
    · have h6 := (ho.lt g hg).1
      have h7 := h1.lt g h5
      omega
  · exact ⟨row_same (h4 x hx).1 fun g hg => hb.block g ((h4 x hx).1.lt g hg).2, (h4 x hx).2⟩
theorem own_mono {b b' : Nat} {v : Value} {l : List UInt8} (h : Own W b v l) (hb : b' ≤ b) : Own W b' v l := by
  refine ⟨h.1, ?_⟩
  rcases h.2 with h | ⟨b2, cap, cur2, e, hb2, h⟩
  · exact .inl h
  · exact .inr ⟨b2, cap, cur2, e, Nat.le_trans hb hb2, h⟩
theorem lies_at {g B : Nat} {cs : Array Value} {T : TypeId} {z : Nat × Nat} (h : W.heap[g]? = some (.cells cs T z)) (hg : g < B) : Lies W B (some ⟨g, 0, none⟩) cs.toList := ⟨fun j u hj => ⟨_, rfl, hg, World.news_of_block h j u hj⟩⟩
theorem bs_at {g B : Nat} {l : List UInt8} {cs : Array Value} {T : TypeId} {z : Nat × Nat} (h : W.heap[g]? = some (.cells cs T z)) (hg : g < B) (hc : cs.toList = bvs l) : Bs W B (some ⟨g, 0, none⟩) l.length l := ⟨rfl, by have := lies_at h hg; rw [hc] at this; exact this⟩
/-- one part, laid down by the text -/
theorem rs_one4 {g g2 : Nat} {l : List UInt8} {cs : Array Value} {T T2 : TypeId} {z z2 : Nat × Nat} (h : W.heap[g]? = some (.cells cs T z)) (hc : cs.toList = bvs l) (h2 : W.heap[g2]? = some (.cells #[.slice (some ⟨g, 0, none⟩) l.length l.length] T2 z2)) (hm : l.length ≤ maxLen) : Rs W W.heap.size (some ⟨g2, 0, none⟩) 1 [l] := by
  refine ⟨rfl, fun k hk => ?_⟩
  obtain rfl : k = 0 := by omega
  exact ⟨_, some ⟨g, 0, none⟩, l.length, rfl, (Array.getElem?_eq_some_iff.1 h2).1, World.news_of_block h2 0 _ rfl, Nat.le_refl _, hm, bs_at h (Array.getElem?_eq_some_iff.1 h).1 hc⟩
theorem rs_two4 {g g' g2 : Nat} {l l' : List UInt8} {cs cs' : Array Value} {T T' T2 : TypeId} {z z' z2 : Nat × Nat} (h : W.heap[g]? = some (.cells cs T z)) (hc : cs.toList = bvs l) (h' : W.heap[g']? = some (.cells cs' T' z')) (hc' : cs'.toList = bvs l') (h2 : W.heap[g2]? = some (.cells #[.slice (some ⟨g, 0, none⟩) l.length l.length, .slice (some ⟨g', 0, none⟩) l'.length l'.length] T2 z2)) (hm : l.length ≤ maxLen) (hm' : l'.length ≤ maxLen) : Rs W W.heap.size (some ⟨g2, 0, none⟩) 2 [l, l'] := by
  refine ⟨rfl, fun k hk => ?_⟩
  rcases (show k = 0 ∨ k = 1 by omega) with rfl | rfl
  · exact ⟨_, some ⟨g, 0, none⟩, l.length, rfl, (Array.getElem?_eq_some_iff.1 h2).1, World.news_of_block h2 0 _ rfl, Nat.le_refl _, hm, bs_at h (Array.getElem?_eq_some_iff.1 h).1 hc⟩
  · exact ⟨_, some ⟨g', 0, none⟩, l'.length, rfl, (Array.getElem?_eq_some_iff.1 h2).1, World.news_of_block h2 1 _ rfl, Nat.le_refl _, hm', bs_at h' (Array.getElem?_eq_some_iff.1 h').1 hc'⟩
theorem Aw.append (h : Aw w W d p X) {W2 : World} (hb : Below W.heap.size W W2) (s : ByteArray) (A : Option Addr) (n c : Nat) (L : List (List UInt8)) (hs : s.size ≤ 1099511627776) (hn : n ≤ maxLen)
    (hL : ∀ W', (∀ k, W.heap.size ≤ k → k < W2.heap.size → W'.heap[k]? = W2.heap[k]?) → Rs W' W'.heap.size A n L) {er : Nat} (hE : p.append s L.flatten = (er, p')) :
    Calls Try.prog 26 #[.pointer (some ⟨d, 0, none⟩), .string s, .slice A n c] W2 fun e w' => e = .returned (.int .i64 (er : Int)) ∧ Aw w w' d p' X := by
  have h2 := h.next hb
  obtain ⟨D, h1, hp, h3, h4⟩ := h
  have hd2 := h1.below hb (Nat.le_refl _)
  refine (append_pd w.heap.size d D s A n c L W2 hd2 (Nat.le_trans h3.size hb.size) hs hn (fun W' ht => hL W' fun k k1 k2 => ht.block k k2 fun hk => by have := h1.lt k hk; omega)).mono fun e w' hh => ?_
  obtain ⟨D', he, ht, hq⟩ := hh
  rw [hp, hE] at he hq
  exact ⟨he, h2.call ⟨hd2, hp, fun x hx => (h4 x hx).2⟩ ht hq⟩
theorem Aw.sync (h : Aw w W d p X) {W2 : World} (hb : Below W.heap.size W W2) (A : Option Addr) (n c : Nat) (NS : List ByteArray) (hn0 : 0 < n) (hn : n ≤ maxLen)
    (hN : ∀ F : List Nat, (∀ k ∈ F, k < W.heap.size) → Nms W2 F A n NS) {er : Nat} (hE : p.sync NS = (er, p')) :
    Calls Try.prog 14 #[.pointer (some ⟨d, 0, none⟩), .slice A n c] W2 fun e w' => e = .returned (.int .i64 (er : Int)) ∧ Aw w w' d p' X := by
  have h2 := h.next hb
  obtain ⟨D, h1, hp, h3, h4⟩ := h
  have hd2 := h1.below hb (Nat.le_refl _)
  refine (sync_pd w.heap.size d D A n c NS W2 hd2 (Nat.le_trans h3.size hb.size) hn0 hn (hN _ h1.lt)).mono fun e w' hh => ?_
  obtain ⟨D', he, ht, hq⟩ := hh
  rw [hp, hE] at he hq
  exact ⟨he, h2.call ⟨hd2, hp, fun x hx => (h4 x hx).2⟩ ht hq⟩
theorem Aw.fuse (h : Aw w W d p X) (n : Int) (hn : n ≤ 9223372036854775807) (hE : p.fuse n = p') :
    Calls Try.prog 27 #[.pointer (some ⟨d, 0, none⟩), .int .i64 n] W fun e w' => e = .returned (.tuple #[]) ∧ Aw w w' d p' X := by
  have h2 := h
  obtain ⟨D, h1, hp, h3, h4⟩ := h
  refine (fuse_pd w.heap.size d D n W h1 hn).mono fun e w' hh => ?_
  obtain ⟨D', he, ht, hq⟩ := hh
  rw [hp, hE] at hq
  exact ⟨he, h2.call ⟨h1, hp, fun x hx => (h4 x hx).2⟩ ht hq⟩
theorem Aw.gone (h : Aw w W d p X) : Calls Try.prog 11 #[.pointer (some ⟨d, 0, none⟩)] W fun e w' => e = .returned (.bool p.burnt) ∧ Below W.heap.size W w' := by
  obtain ⟨D, h1, hp, h3, h4⟩ := h
  rw [← hp]
  exact gone_any w.heap.size d D W h1
/-- a crash with these picks: another disk, in memory of its own -/
theorem Aw.crash (h : Aw w W d p X) {W2 : World} (hb : Below W.heap.size W W2) (A : Option Addr) (n c : Nat) (P : List Int) (hP : Isd W2 W2.heap.size A n P) (hn : n ≤ maxLen) :
    Calls Try.prog 9 #[.pointer (some ⟨d, 0, none⟩), .slice A n c] W2 fun e w' => ∃ cb, e = .returned (.pointer (some ⟨cb, 0, none⟩)) ∧ (∃ Dc, Dk w' W2.heap.size cb Dc ∧ pd Dc = p.crash P) ∧ Below W2.heap.size W2 w' := by
  obtain ⟨D, h1, hp, h3, h4⟩ := h
  refine (crash_pd w.heap.size d D A n c P W2 (h1.below hb (Nat.le_refl _)) hP hn).mono fun e w' hh => ?_
  obtain ⟨cb, Dc, he, hd, hq, hb2⟩ := hh
  rw [hp] at hq
  exact ⟨cb, he, ⟨Dc, hd, hq⟩, hb2⟩
theorem nms_one {g : Nat} {s : ByteArray} {T : TypeId} {z : Nat × Nat} {F : List Nat} (h : W.heap[g]? = some (.cells #[.string s] T z)) (hs : s.size ≤ 1099511627776) (hF : ∀ k ∈ F, k < g) : Nms W F (some ⟨g, 0, none⟩) 1 [s] := by
  refine ⟨rfl, fun k hk => ?_⟩
  obtain rfl : k = 0 := by omega
  exact ⟨_, rfl, (Array.getElem?_eq_some_iff.1 h).1, fun h2 => Nat.lt_irrefl _ (hF _ h2), World.news_of_block h 0 _ rfl, hs⟩
theorem Aw.append1 (h : Aw w W d p X) (s : ByteArray) (l : List UInt8) (m : Nat) (cs : Array Value) (T T2 : TypeId) (fr : Nat × Nat) {er : Nat} (hm : l.length = m) (hc : cs.toList = bvs l) (hs : s.size ≤ 1099511627776) (hl : m ≤ maxLen) (hE : p.append s [l].flatten = (er, p')) :
    Calls Try.prog 26 #[.pointer (some ⟨d, 0, none⟩), .string s, .slice (some ⟨W.heap.size + 1, 0, none⟩) 1 1] ((W.alloc (.cells cs T fr)).alloc (.cells #[.slice (some ⟨W.heap.size, 0, none⟩) m m] T2)) fun e w' => e = .returned (.int .i64 (er : Int)) ∧ Aw w w' d p' X := by
  subst hm
  refine h.append (((Below.refl W.heap.size W).alloc (Nat.le_refl _) _).alloc (by simp) _) s _ 1 1 [l] hs (by decide) (fun W' hk => ?_) hE
  have z1 : (W.alloc (.cells cs T fr)).heap.size = W.heap.size + 1 := by simp
  have e0 : W'.heap[W.heap.size]? = some (.cells cs T fr) := by
    rw [hk _ (Nat.le_refl _) (by simp; omega), Below.heap_alloc _ _ _ (by simp)]
    exact heap_alloc_new W _
  have e1 : W'.heap[W.heap.size + 1]? = some (.cells #[.slice (some ⟨W.heap.size, 0, none⟩) l.length l.length] T2) := by
    rw [hk _ (by omega) (by simp)]
    have := heap_alloc_new (W.alloc (.cells cs T fr)) (.cells #[.slice (some ⟨W.heap.size, 0, none⟩) l.length l.length] T2)
    rwa [z1] at this
  exact rs_one4 e0 hc e1 hl
theorem Aw.append2 (h : Aw w W d p X) (s : ByteArray) (l l' : List UInt8) (m m' : Nat) (cs cs' : Array Value) (T T' T2 : TypeId) (fr fr' : Nat × Nat) {er : Nat} (hm : l.length = m) (hm' : l'.length = m') (hc : cs.toList = bvs l) (hc' : cs'.toList = bvs l') (hs : s.size ≤ 1099511627776) (hl : m ≤ maxLen) (hl' : m' ≤ maxLen) (hE : p.append s [l, l'].flatten = (er, p')) :
    Calls Try.prog 26 #[.pointer (some ⟨d, 0, none⟩), .string s, .slice (some ⟨W.heap.size + 1 + 1, 0, none⟩) 2 2] (((W.alloc (.cells cs T fr)).alloc (.cells cs' T' fr')).alloc (.cells #[.slice (some ⟨W.heap.size, 0, none⟩) m m, .slice (some ⟨W.heap.size + 1, 0, none⟩) m' m'] T2)) fun e w' => e = .returned (.int .i64 (er : Int)) ∧ Aw w w' d p' X := by
  subst hm
  subst hm'
  refine h.append ((((Below.refl W.heap.size W).alloc (Nat.le_refl _) _).alloc (by simp) _).alloc (by simp; omega) _) s _ 2 2 [l, l'] hs (by decide) (fun W' hk => ?_) hE
  have z1 : (W.alloc (.cells cs T fr)).heap.size = W.heap.size + 1 := by simp
  have z2 : ((W.alloc (.cells cs T fr)).alloc (.cells cs' T' fr')).heap.size = W.heap.size + 1 + 1 := by simp
  have e0 : W'.heap[W.heap.size]? = some (.cells cs T fr) := by
    rw [hk _ (Nat.le_refl _) (by simp; omega), Below.heap_alloc _ _ _ (by simp; omega), Below.heap_alloc _ _ _ (by simp)]
    exact heap_alloc_new W _
  have e1 : W'.heap[W.heap.size + 1]? = some (.cells cs' T' fr') := by
    rw [hk _ (by omega) (by simp), Below.heap_alloc _ _ _ (by simp)]
    have := heap_alloc_new (W.alloc (.cells cs T fr)) (.cells cs' T' fr')
    rwa [z1] at this
  have e2 : W'.heap[W.heap.size + 1 + 1]? = some (.cells #[.slice (some ⟨W.heap.size, 0, none⟩) l.length l.length, .slice (some ⟨W.heap.size + 1, 0, none⟩) l'.length l'.length] T2) := by
    rw [hk _ (by omega) (by simp)]
    have := heap_alloc_new ((W.alloc (.cells cs T fr)).alloc (.cells cs' T' fr')) (.cells #[.slice (some ⟨W.heap.size, 0, none⟩) l.length l.length, .slice (some ⟨W.heap.size + 1, 0, none⟩) l'.length l'.length] T2)
    rwa [z2] at this
  exact rs_two4 e0 hc e1 hc' e2 hl hl'
theorem Aw.sync1 (h : Aw w W d p X) (s : ByteArray) (T : TypeId) {er : Nat} (hs : s.size ≤ 1099511627776) (hE : p.sync [s] = (er, p')) :
    Calls Try.prog 14 #[.pointer (some ⟨d, 0, none⟩), .slice (some ⟨W.heap.size, 0, none⟩) 1 1] (W.alloc (.cells #[.string s] T)) fun e w' => e = .returned (.int .i64 (er : Int)) ∧ Aw w w' d p' X :=
  h.sync ((Below.refl W.heap.size W).alloc (Nat.le_refl _) _) _ 1 1 [s] (by decide) (by decide) (fun F hF => nms_one (heap_alloc_new W _) hs hF) hE
end
set_option maxRecDepth 100000 in
set_option maxHeartbeats 8000000 in
theorem awake4_any (w : World) : Calls Try.prog 8 #[] w fun e w' => e = .returned (.bool true) ∧ Below w.heap.size w w' := by
  have HN := Lib.hid (fun W => new_any4 10 W)
  have kc := fun (w : World) (C : Array Value) (n c : Nat) => Lib.run_convert_bytes_const (P := Try.prog) w 33 5 C n c Try.underlying33 Try.underlying5
  have kc2 : ∀ (W : World) (C0 C : Array Value) (fr : Nat × Nat) (n c : Nat), (convert 33 33 (.slice (some ⟨W.heap.size + 1, 0, none⟩) n c)).run Try.prog ((W.alloc (.cells C0 5 fr)).alloc (.cells C 5)) = .ok (.slice (some ⟨W.heap.size + 1, 0, none⟩) n c) ((W.alloc (.cells C0 5 fr)).alloc (.cells C 5 (C.size, C.size + 1))) := fun W C0 C fr n c => by
    have := kc (W.alloc (.cells C0 5 fr)) C n c
    rwa [show (W.alloc (.cells C0 5 fr)).heap.size = W.heap.size + 1 by simp] at this
  go_enter Try.func8, Try.ntmps8
  go_wp2_with fail
  refine (HN.out _).mono ?_
  rintro e w1 ⟨h1, hb1⟩
  rw [if_neg (by omega)] at h1
  obtain ⟨d, rfl, hd1, hk1⟩ := h1
  have HA1 : Hid (Aw w w1 d pa0 []) := ⟨_, hk1, rfl, hb1, fun x hx => by cases hx⟩
  clear hk1 hb1
  go_wp2_with fail
  refine (HA1.out.append1 ⟨#[97]⟩ [49, 50, 51, 52, 53, 54, 55] 7 _ _ _ _ rfl rfl (by decide) (by decide) ea1).mono ?_
  rintro e w2 ⟨rfl, ha2⟩
  have HA2 := Lib.hid ha2
  clear ha2
  go_wp2_with fail
  refine (HA2.out.sync1 ⟨#[97]⟩ _ (by decide) ea2).mono ?_
  rintro e w3 ⟨rfl, ha3⟩
  have HA3 := Lib.hid ha3
  clear ha3
  go_wp2_with fail
  refine (HA3.out.append2 ⟨#[97]⟩ [56] [57] 1 1 _ _ _ _ _ _ _ rfl rfl rfl rfl (by decide) (by decide) (by decide) ea3).mono ?_
  rintro e w4 ⟨rfl, ha4⟩
  have HA4 := Lib.hid ha4
  clear ha4
  go_wp2_with fail
  refine (HA4.out.append1 ⟨#[98]⟩ [49, 50] 2 _ _ _ _ rfl rfl (by decide) (by decide) ea4).mono ?_
  rintro e w5 ⟨rfl, ha5⟩
  have HA5 := Lib.hid ha5
  clear ha5
  go_wp2_with fail
  refine (HA5.out.crash (Below.refl _ _) none 0 0 [] ⟨rfl, fun k hk => by omega⟩ (by decide)).mono ?_
  rintro e w6 ⟨cb6, rfl, hc6, hb6⟩
  have HC6 : Hid (Calls Try.prog 12 #[.pointer (some ⟨cb6, 0, none⟩), .string ⟨#[97]⟩] w6 fun e w' => ∃ v, e = .returned (.tuple #[v, .int .i64 0]) ∧ Own w' w6.heap.size v [49, 50, 51, 52, 53, 54, 55] ∧ Below w6.heap.size w6 w') := by
    obtain ⟨Dc, h1, h2⟩ := hc6
    exact read_pd w5.heap.size cb6 Dc ⟨#[97]⟩ w6 h1 (by decide) (f := ⟨⟨#[97]⟩, [49, 50, 51, 52, 53, 54, 55], 7⟩) (by rw [h2]; exact ea5)
  have HB6 := Lib.hid hb6
  clear hc6 hb6
  go_wp2_with fail
  refine HC6.out.mono ?_
  rintro e w7 ⟨v7, rfl, ho7, hb7⟩
  have HA7 := Lib.hid (HA5.out.push (HB6.out.trans (hb7.mono HB6.out.size)) (own_mono ho7 HB6.out.size))
  clear ho7 hb7 HC6 HB6
  go_wp2_with fail
  refine (HA7.out.crash ((Below.refl _ _).alloc (Nat.le_refl _) _) _ 1 1 [1] ⟨rfl, fun k hk => by
    obtain rfl : k = 0 := by omega
    exact ⟨_, rfl, by simp, World.news_of_block (heap_alloc_new w7 _) 0 _ rfl, by decide, by decide⟩⟩ (by decide)).mono ?_
  rintro e w8 ⟨cb8, rfl, hc8, hb8⟩
  have HC8 : Hid (Calls Try.prog 12 #[.pointer (some ⟨cb8, 0, none⟩), .string ⟨#[97]⟩] w8 fun e w' => ∃ v, e = .returned (.tuple #[v, .int .i64 0]) ∧ Own w' w8.heap.size v [49, 50, 51, 52, 53, 54, 55, 56] ∧ Below w8.heap.size w8 w') := by
    obtain ⟨Dc, h1, h2⟩ := hc8
    exact read_pd _ cb8 Dc ⟨#[97]⟩ w8 h1 (by decide) (f := ⟨⟨#[97]⟩, [49, 50, 51, 52, 53, 54, 55, 56], 8⟩) (by rw [h2]; exact ea6)
  have HB8 : Hid (Below w7.heap.size w7 w8) := ((Below.refl w7.heap.size w7).alloc (Nat.le_refl _) _).trans (hb8.mono (by simp))
  clear hc8 hb8
  go_wp2_with fail
  refine HC8.out.mono ?_
  rintro e w9 ⟨v9, rfl, ho9, hb9⟩
  have HA9 := Lib.hid (HA7.out.push (HB8.out.trans (hb9.mono HB8.out.size)) (own_mono ho9 HB8.out.size))
  clear ho9 hb9 HC8 HB8
  go_wp2_with fail
  refine (HA9.out.fuse 1 (by decide) ea7).mono ?_
  rintro e w10 ⟨rfl, ha10⟩
  have HA10 := Lib.hid ha10
  clear ha10
  go_wp2_with fail
  refine (HA10.out.append (Below.refl _ _) ⟨#[98]⟩ none 0 0 [] (by decide) (by decide) (fun W' _ => ⟨rfl, fun k hk => by omega⟩) ea8).mono ?_
  rintro e w11 ⟨rfl, ha11⟩
  have HA11 := Lib.hid ha11
  have h7 : ∃ A7 c7, v7 = .slice A7 7 c7 := by
    obtain ⟨D, _, _, _, h4⟩ := ha11
    obtain ⟨A, c, h, _⟩ := slice_of_row (h4 (v7, [49, 50, 51, 52, 53, 54, 55]) (by simp)).1
    exact ⟨A, c, h⟩
  have h9 : ∃ A9 c9, v9 = .slice A9 8 c9 := by
    obtain ⟨D, _, _, _, h4⟩ := ha11
    obtain ⟨A, c, h, _⟩ := slice_of_row (h4 (v9, [49, 50, 51, 52, 53, 54, 55, 56]) (by simp)).1
    exact ⟨A, c, h⟩
  obtain ⟨A7, c7, rfl⟩ := h7
  obtain ⟨A9, c9, rfl⟩ := h9
  clear ha11
  have HSS : Hid (∀ W p, Aw w W d p [(.slice A9 8 c9, [49, 50, 51, 52, 53, 54, 55, 56]), (.slice A7 7 c7, [49, 50, 51, 52, 53, 54, 55])] → (convert 33 9 (.slice A7 7 c7)).run Try.prog W = .ok (.string ⟨#[49, 50, 51, 52, 53, 54, 55]⟩) W ∧ (convert 33 9 (.slice A9 8 c9)).run Try.prog W = .ok (.string ⟨#[49, 50, 51, 52, 53, 54, 55, 56]⟩) W) := fun W p h => by
    obtain ⟨D, _, _, _, h4⟩ := h
    have b7 : Bs W W.heap.size A7 7 [49, 50, 51, 52, 53, 54, 55] := ⟨rfl, Lies.of_row (h4 (.slice A7 7 c7, [49, 50, 51, 52, 53, 54, 55]) (by simp)).1⟩
    have b9 : Bs W W.heap.size A9 8 [49, 50, 51, 52, 53, 54, 55, 56] := ⟨rfl, Lies.of_row (h4 (.slice A9 8 c9, [49, 50, 51, 52, 53, 54, 55, 56]) (by simp)).1⟩
    exact ⟨b7.str (P := Try.prog) (src := 33) (dst := 9) (e := 5) Try.underlying33 Try.underlying5 Try.underlying9 c7, b9.str (P := Try.prog) (src := 33) (dst := 9) (e := 5) Try.underlying33 Try.underlying5 Try.underlying9 c9⟩
  obtain ⟨s7, s9⟩ := HSS.out _ _ HA11.out
  clear kc kc2 HSS
  go_wp2_with (first
    | (go_at_call 14; (with_reducible refine (HA11.out.sync1 ⟨#[97]⟩ _ (by decide) ea9).mono ?_); rintro e w12 ⟨rfl, ha12⟩; have HA12 := Lib.hid ha12; clear ha12)
    | (go_at_call 11; (with_reducible refine HA12.out.gone.mono ?_); rintro e w13 ⟨he13, hb13⟩; rw [ea10] at he13; subst he13; have HA13 := Lib.hid (HA12.out.next hb13).below; clear hb13))
  go_ret
  exact ⟨rfl, HA13.out⟩
end Go.Proofs.Ytebkgcnldbkgeaa
