/-
  For DiskSwaps: '[]byte(s)' of a text; the calls as pure data.
-/
import Derived.Test.YtcepjabbnejgeaaDkU
import Derived.Test.YtcepjabbnejgeaaDkW
import Derived.Lib.ConvBytes
namespace Go.Proofs.Ytcepjabbnejgeaa
open Go.RowKit Go.Lib Go.Sort Go.Maps
set_option linter.unusedVariables false
set_option linter.unusedSimpArgs false

section
variable {w W W' : World} {d : Nat} {p p' : PD} {X : List (Value × List UInt8)}
/-- the world behind '[]byte(s)': a new block that holds the bytes -/
structure Cv (W : World) (s : ByteArray) (cap : Nat) (W' : World) : Prop where
  run : (convert 9 36 (.string s)).run Try.prog W = .ok (.slice (some ⟨W.heap.size, 0, none⟩) s.size cap) W'
  below : Below W.heap.size W W'
  size : W'.heap.size = W.heap.size + 1
  bs : ∀ V : World, V.heap[W.heap.size]? = W'.heap[W.heap.size]? → Bs V (W.heap.size + 1) (some ⟨W.heap.size, 0, none⟩) s.size s.data.toList
  c1 : s.size ≤ cap
  c2 : cap ≤ maxLen
theorem conv_any (W : World) (s : ByteArray) (hs : s.size ≤ maxLen) : ∃ (cap : Nat) (W' : World), Cv W s cap W' := by
  refine ⟨_, _, Lib.run_convert_string_bytes W 9 36 5 s Try.underlying9 Try.underlying36 Try.underlying5, ⟨rfl, rfl, rfl, by rw [Lib.bytesWorld_size]; omega, fun k hk => Lib.bytesWorld_at_old W _ s k hk⟩, Lib.bytesWorld_size W _ s, fun V hV => ⟨by simp, ⟨fun j u hj => ?_⟩⟩, grownCap_ge _ _ _ _, grownCap_le_maxLen _ _ _ _ hs⟩
  have hjl : j < s.size := by
    have := (List.getElem?_eq_some_iff.1 hj).1
    rw [bvs_length] at this
    simpa using this
  refine ⟨_, rfl, by simp, ?_⟩
  have h1 := Lib.bytesWorld_cell W 5 s j hjl
  have h2 : (⟨W.heap.size, 0, none⟩ : Addr).add j = ⟨W.heap.size, j, none⟩ := by
    unfold Addr.add
    simp
    exact fun h => h.symm
  rw [h2, World.cell?_of_block (a := ⟨W.heap.size, j, none⟩) hV, h1, ← hj]
  unfold bvs
  rw [List.getElem?_map, List.getElem?_eq_getElem (by simpa using hjl), List.getD_eq_getElem?_getD, List.getElem?_eq_getElem (by simpa using hjl)]
  rfl
theorem Aw.appendS (h : Aw w W d p X) (s x : ByteArray) {cap : Nat} {W1 : World} (hc : Cv W x cap W1) (T2 : TypeId) {er : Nat} (hs : s.size ≤ 1099511627776) (hE : p.append s x.data.toList = (er, p')) :
    Calls Try.prog 18 #[.pointer (some ⟨d, 0, none⟩), .string s, .slice (some ⟨W1.heap.size, 0, none⟩) 1 1] (W1.alloc (.cells #[.slice (some ⟨W.heap.size, 0, none⟩) x.size cap] T2)) fun e w' => e = .returned (.int .i64 (er : Int)) ∧ Aw w w' d p' X := by
  have hz := hc.size
  refine h.append (hc.below.alloc (by omega) _) s _ 1 1 [x.data.toList] hs (by decide) (fun W' hk => ?_) (by simpa using hE)
  have e0 : W'.heap[W.heap.size]? = W1.heap[W.heap.size]? := by
    rw [hk _ (Nat.le_refl _) (by simp; omega), Below.heap_alloc _ _ _ (by omega)]
  have e1 : W'.heap[W1.heap.size]? = some (.cells #[.slice (some ⟨W.heap.size, 0, none⟩) x.size cap] T2) := by
    rw [hk _ (by omega) (by simp)]
    exact heap_alloc_new W1 _
  have hb := hc.bs W' e0
  have hz1 := (Array.getElem?_eq_some_iff.1 e1).1
  refine ⟨rfl, fun k hk => ?_⟩
  obtain rfl : k = 0 := by omega
  have hl : x.data.toList.length = x.size := by simp
  refine ⟨_, some ⟨W.heap.size, 0, none⟩, cap, rfl, hz1, ?_, ?_, hc.c2, ?_⟩
  · show W'.cell? _ = some (.slice _ (x.data.toList.length : Nat) cap)
    rw [hl]
    exact World.news_of_block e1 0 _ rfl
  · show x.data.toList.length ≤ cap
    rw [hl]; exact hc.c1
  · show Bs W' _ _ x.data.toList.length x.data.toList
    rw [hl]
    exact hb.wider (by omega)
theorem Aw.rename (h : Aw w W d p X) (fr tn : ByteArray) (hs : fr.size ≤ maxLen) (ht : tn.size ≤ 1099511627776) {er : Nat} (hE : p.rename fr tn = (er, p')) :
    Calls Try.prog 26 #[.pointer (some ⟨d, 0, none⟩), .string fr, .string tn] W fun e w' => e = .returned (.int .i64 (er : Int)) ∧ Aw w w' d p' X := by
  have h2 := h
  obtain ⟨D, h1, hp, h3, h4⟩ := h
  refine (rename_pd w.heap.size d D fr tn W h1 hs ht).mono fun e w' hh => ?_
  obtain ⟨D', he, ht, hq⟩ := hh
  rw [hp, hE] at he hq
  exact ⟨he, h2.call ⟨h1, hp, fun x hx => (h4 x hx).2⟩ ht hq⟩
theorem Aw.remove (h : Aw w W d p X) (s : ByteArray) (hs : s.size ≤ maxLen) {er : Nat} (hE : p.remove s = (er, p')) :
    Calls Try.prog 35 #[.pointer (some ⟨d, 0, none⟩), .string s] W fun e w' => e = .returned (.int .i64 (er : Int)) ∧ Aw w w' d p' X := by
  have h2 := h
  obtain ⟨D, h1, hp, h3, h4⟩ := h
  refine (remove_pd w.heap.size d D s W h1 hs).mono fun e w' hh => ?_
  obtain ⟨D', he, ht, hq⟩ := hh
  rw [hp, hE] at he hq
  exact ⟨he, h2.call ⟨h1, hp, fun x hx => (h4 x hx).2⟩ ht hq⟩
end
abbrev sx : ByteArray := ⟨#[120]⟩
abbrev sn : ByteArray := ⟨#[120, 46, 110, 101, 119]⟩
def qs (F : List Fl) : PD := ⟨F, 4000, false, 0⟩
def qf (F : List Fl) (k : Int) : PD := ⟨F, 4000, true, k⟩
theorem chg_ok (p : PD) (F : List Fl) (hb : p.burnt = false) {E : Nat} (hE : E = 0) : p.chg E F = (0, PD.burn { p with F := F }) := by
  unfold PD.chg
  rw [if_neg (by rw [hb]; decide), if_pos hE]
theorem chg_down (p : PD) (E : Nat) (F : List Fl) (hb : p.burnt = true) : p.chg E F = (9, p) := by
  unfold PD.chg
  rw [if_pos hb]
theorem appE_ok (p : PD) (s : ByteArray) (n : Nat) (hn : nameB s = true) (hf : n ≤ p.free) (hl : p.F.length < 128) : p.appE s n = 0 := by
  unfold PD.appE
  rw [if_neg (by rw [hn]; decide), if_neg]
  omega
theorem sw1 (o : List UInt8) (ho : o.length ≤ 300) : (qs []).append sx o = (0, qs [⟨sx, o, 0⟩]) := by
  unfold PD.append
  rw [chg_ok _ _ rfl (appE_ok _ _ _ (by decide) (by show o.length ≤ 4000; omega) (by decide))]
  rfl
theorem sw2 (o : List UInt8) : (qs [⟨sx, o, 0⟩]).sync [sx] = (0, qs [⟨sx, o, o.length⟩]) := by
  unfold PD.sync
  exact (chg_ok _ _ rfl (by rfl)).trans rfl
theorem sw3 (o : List UInt8) (k : Nat) : (qs [⟨sx, o, o.length⟩]).fuse (k : Int) = qf [⟨sx, o, o.length⟩] k := by
  unfold PD.fuse
  rw [if_neg (show ¬ (qs [⟨sx, o, o.length⟩]).burnt = true from fun h => by cases h)]
  unfold qf
  rw [if_neg (by omega), decide_eq_true (show (0 : Int) ≤ (k : Int) by omega)]
  rfl
def f2 (o fr : List UInt8) (m : Nat) : List Fl := [⟨sx, o, o.length⟩, ⟨sn, fr, m⟩]
theorem sw4 (o fr : List UInt8) (ho : o.length ≤ 300) (hf : fr.length ≤ 300) (k : Int) (hk : 1 ≤ k) : (qf [⟨sx, o, o.length⟩] k).append sn fr = (0, qf (f2 o fr 0) (k - 1)) := by
  unfold PD.append
  rw [chg_ok _ _ (by unfold PD.burnt qf; simp; omega) (appE_ok _ _ _ (by decide) (by show fr.length ≤ ((4000 : Int) - ((([⟨sx, o, o.length⟩] : List Fl).map fun f => f.b.length).sum : Nat)).toNat; simp; omega) (by show 1 < 128; decide))]
  rfl
theorem sw5 (o fr : List UInt8) (k : Int) (hk : 1 ≤ k) : (qf (f2 o fr 0) k).sync [sn] = (0, qf (f2 o fr fr.length) (k - 1)) := by
  unfold PD.sync
  exact (chg_ok _ _ (by unfold PD.burnt qf; simp; omega) (by rfl)).trans rfl
theorem sw6 (o fr : List UInt8) (k : Int) (hk : 1 ≤ k) : (qf (f2 o fr fr.length) k).rename sn sx = (0, qf [⟨sx, fr, fr.length⟩] (k - 1)) := by
  unfold PD.rename
  exact (chg_ok _ _ (by unfold PD.burnt qf; simp; omega) (by rfl)).trans rfl
theorem sw7 (F : List Fl) (s : ByteArray) (x : List UInt8) : (qf F 0).append s x = (9, qf F 0) := chg_down _ _ _ rfl
theorem sw8 (F : List Fl) (NS : List ByteArray) : (qf F 0).sync NS = (9, qf F 0) := chg_down _ _ _ rfl
theorem sw9 (F : List Fl) (a b : ByteArray) : (qf F 0).rename a b = (9, qf F 0) := chg_down _ _ _ rfl
theorem last_all (n : Nat) (pick : Int) : lastN4 n n pick = n := by unfold lastN4; omega
theorem sw10 (o : List UInt8) (k : Int) (P : List Int) : getT Fl.key ((qf [⟨sx, o, o.length⟩] k).crash P).F [120] = some ⟨sx, o, o.length⟩ := by
  show getT Fl.key [crash1 P 0 ⟨sx, o, o.length⟩] [120] = _
  unfold crash1
  simp only [last_all, List.take_length]
  rfl
theorem sw11 (o fr : List UInt8) (m : Nat) (k : Int) (P : List Int) : getT Fl.key ((qf (f2 o fr m) k).crash P).F [120] = some ⟨sx, o, o.length⟩ := by
  show getT Fl.key [crash1 P 0 ⟨sx, o, o.length⟩, crash1 P 1 ⟨sn, fr, m⟩] [120] = _
  unfold crash1
  simp only [last_all, List.take_length]
  rfl
end Go.Proofs.Ytcepjabbnejgeaa
