/-
  Two pairs of tables beside one another; a list of calls in memory.
-/
import Derived.Test.YtmlekkbjmfknfaaCtS
namespace Go.Proofs.Ytmlekkbjmfknfaa
open Go.RowKit Go.Lib Go.Sort
set_option linter.unusedVariables false
set_option linter.unusedSimpArgs false

structure P1 (w wx : World) (N : Nat → Prop) (g h k : Nat) (S : Nat → Prop) (n : Int) (v u : Value) (L R : List AtC) : Prop where
  tp : TP wx S g h n v u L R
  len : L.length ≤ 12 * k
  far : ∀ j, S j → w.heap.size ≤ j ∧ ¬ N j
section
variable {w wx w' : World} {N N' S S' S2 : Nat → Prop} {g h g2 h2 k k' : Nat} {n n' : Int} {v u v' u' : Value} {L R L' R' : List AtC}
theorem P1.below (h1 : P1 w wx N g h k S n v u L R) (hb : Below wx.heap.size wx w') : P1 w w' N g h k S n v u L R := ⟨h1.tp.below hb, h1.len, h1.far⟩
theorem P1.other (h1 : P1 w wx N g h k S n v u L R) (hf : Fr S2 wx w') (hd : ∀ j, S j → ¬ S2 j) : P1 w w' N g h k S n v u L R := ⟨h1.tp.fr hf hd, h1.len, h1.far⟩
theorem P1.more (h1 : P1 w wx N g h k S n v u L R) (hk : k ≤ k') : P1 w wx N g h k' S n v u L R := ⟨h1.tp, by have := h1.len; omega, h1.far⟩
theorem P1.none_ (h1 : P1 w wx N g h k S n v u L R) : P1 w wx (fun _ => False) g h k S n v u L R := ⟨h1.tp, h1.len, fun j hj => ⟨(h1.far j hj).1, fun e => e⟩⟩
/-- in a world with a new block that is kept free -/
theorem P1.new (h1 : P1 w wx N g h k S n v u L R) (hb : Below wx.heap.size wx w') : P1 w w' (fun j => j = wx.heap.size) g h k S n v u L R := ⟨h1.tp.below hb, h1.len, fun j hj => ⟨(h1.far j hj).1, fun e => by have := h1.tp.lt j hj; omega⟩⟩
theorem P1.stepped (h1 : P1 w wx N g h k S n v u L R) (ht : TP w' S' g h n' v' u' L' R') (hs : ∀ j, S' j → S j ∨ wx.heap.size ≤ j) (hl : L'.length ≤ L.length + 12) (hN : ∀ j, N j → j < wx.heap.size) (hw : w.heap.size ≤ wx.heap.size) : P1 w w' N g h (k + 1) S' n' v' u' L' R' :=
  ⟨ht, by have := h1.len; omega, fun j hj => by
    rcases hs j hj with e | e
    · exact h1.far j e
    · exact ⟨by omega, fun q => by have := hN j q; omega⟩⟩
theorem P1.out (h1 : P1 w wx N g h k S n v u L R) (hf : Fr S wx w') (hb : Below w.heap.size w wx) : Below w.heap.size w w' := hb.trans (hf.below (fun j hj => (h1.far j hj).1) hb.size)
theorem P1.stay (h1 : P1 w wx N g h k S n v u L R) (hf : Fr S wx w') {x : Nat} (hx : N x) (hl : x < wx.heap.size) : w'.heap[x]? = wx.heap[x]? := hf.block x hl fun e => (h1.far x e).2 hx
end
def Uno (w wx : World) (N : Nat → Prop) (g h k : Nat) : Prop := ∃ S n v u L R, P1 w wx N g h k S n v u L R ∧ Below w.heap.size w wx
def Duo (w wx : World) (N : Nat → Prop) (g h g2 h2 k1 k2 : Nat) : Prop := ∃ S n v u L R S2 n2 v2 u2 L2 R2, P1 w wx N g h k1 S n v u L R ∧ P1 w wx N g2 h2 k2 S2 n2 v2 u2 L2 R2 ∧ (∀ j, S j → ¬ S2 j) ∧ Below w.heap.size w wx
def Two9 (w wx : World) (N : Nat → Prop) (g h k : Nat) (sc ss : Value) : Prop := (sc = .pointer none ∧ ss = .pointer none ∧ Uno w wx N g h k) ∨ ∃ g2 h2, sc = .pointer (some ⟨g2, 0, none⟩) ∧ ss = .pointer (some ⟨h2, 0, none⟩) ∧ Duo w wx N g h g2 h2 k k
theorem Two9.uno {w wx : World} {N : Nat → Prop} {g h k : Nat} {sc ss : Value} (ht : Two9 w wx N g h k sc ss) : Uno w wx N g h k := by
  rcases ht with ⟨_, _, h1⟩ | ⟨g2, h2, _, _, S, n, v, u, L, R, S2, n2, v2, u2, L2, R2, h1, _, _, h4⟩
  · exact h1
  · exact ⟨S, n, v, u, L, R, h1, h4⟩
theorem Two9.new {w wx w' : World} {N : Nat → Prop} {g h k : Nat} {sc ss : Value} (ht : Two9 w wx N g h k sc ss) (hb : Below wx.heap.size wx w') : Two9 w w' (fun j => j = wx.heap.size) g h k sc ss := by
  rcases ht with ⟨e1, e2, S, n, v, u, L, R, h1, h4⟩ | ⟨g2, h2, e1, e2, S, n, v, u, L, R, S2, n2, v2, u2, L2, R2, h1, h2', h3, h4⟩
  · exact .inl ⟨e1, e2, S, n, v, u, L, R, h1.new hb, h4.trans (hb.mono h4.size)⟩
  · exact .inr ⟨g2, h2, e1, e2, S, n, v, u, L, R, S2, n2, v2, u2, L2, R2, h1.new hb, h2'.new hb, h3, h4.trans (hb.mono h4.size)⟩
/-- a copy stands beside -/
theorem TP.copied {wx w1 w2 : World} {S : Nat → Prop} {g h g2 h2 : Nat} {n : Int} {v u v2 u2 : Value} {L R : List AtC} (h1 : TP wx S g h n v u L R) (ht : Tbl w1 wx.heap.size g2 n v2 L) (hg : wx.heap.size ≤ g2) (hr : Rt w2 w1.heap.size h2 n u2 R) (hh : w1.heap.size ≤ h2) (hb : Below w1.heap.size w1 w2) :
    TP w2 (fun j => j = g2 ∨ j = h2 ∨ v2.ownBlock = some j ∨ u2.ownBlock = some j) g2 h2 n v2 u2 L R := by
  have l1 := ht.lt
  have l2 := (Array.getElem?_eq_some_iff.1 hr.box).1
  have z1 := hb.size
  have hv := World.ownsRow.lt ht.row
  have hu := World.ownsRow.lt hr.row
  refine ⟨(ht.below hb).base0, hr.base0, h1.alk, by omega, fun e => by have := (hv _ e).2; omega, fun e => by have := (hu _ e).1; omega, fun k e1 e2 => by have := (hv _ e1).2; have := (hu _ e2).1; omega, .inl rfl, .inr (.inl rfl), fun k e => .inr (.inr (.inl e)), fun k e => .inr (.inr (.inr e)), ?_, h1.n0, h1.n1⟩
  rintro k (rfl | rfl | e | e)
  · omega
  · omega
  · have := (hv _ e).2; omega
  · exact (hu _ e).2

/-! ### calls in memory -/
structure CallC where
  kind : Int
  A : Option Addr
  m : Nat
  c : Nat
  M : List OneC
  fr : Bool
  key : ByteArray
  to_ : ByteArray
  most : Int
instance : Inhabited CallC := ⟨⟨0, none, 0, 0, [], false, ⟨#[]⟩, ⟨#[]⟩, 0⟩⟩
def CallC.ok (w : World) (B : Nat) (x : CallC) : Prop := Ocs w B x.A x.m x.M ∧ x.m ≤ maxLen ∧ (-9223372036854775808 ≤ x.most ∧ x.most ≤ 9223372036854775807)
theorem CallC.ok.to {w W : World} {x : CallC} (h : x.ok w w.heap.size) (hb : Below w.heap.size w W) : x.ok W W.heap.size := ⟨(h.1.below hb).wider hb.size, h.2⟩
structure Cls (w : World) (B : Nat) (A : Option Addr) (n : Nat) (L : List CallC) : Prop where
  row : ∀ k, k < n → ∃ p, A = some p ∧ p.block < B ∧ w.cell? (p.add (k * 6)) = some (.int .i64 (L.getD k default).kind) ∧
    w.cell? ⟨(p.add (k * 6)).block, (p.add (k * 6)).off + 1, none⟩ = some (.slice (L.getD k default).A (L.getD k default).m (L.getD k default).c) ∧
    w.cell? ⟨(p.add (k * 6)).block, (p.add (k * 6)).off + 2, none⟩ = some (.bool (L.getD k default).fr) ∧
    w.cell? ⟨(p.add (k * 6)).block, (p.add (k * 6)).off + 3, none⟩ = some (.string (L.getD k default).key) ∧
    w.cell? ⟨(p.add (k * 6)).block, (p.add (k * 6)).off + 4, none⟩ = some (.string (L.getD k default).to_) ∧
    w.cell? ⟨(p.add (k * 6)).block, (p.add (k * 6)).off + 5, none⟩ = some (.int .i64 (L.getD k default).most) ∧ (L.getD k default).ok w B
theorem Cls.ok_at {w : World} {B n k : Nat} {A : Option Addr} {L : List CallC} (h : Cls w B A n L) (hk : k < n) : (L.getD k default).ok w B := by
  obtain ⟨_, _, _, _, _, _, _, _, _, h1⟩ := h.row k hk
  exact h1
theorem Cls.below {w w' : World} {B n : Nat} {A : Option Addr} {L : List CallC} (h : Cls w B A n L) (hb : Below B w w') : Cls w' B A n L := ⟨fun k hk => by
  obtain ⟨p, e, hp, r0, r1, r2, r3, r4, r5, h1, h2⟩ := h.row k hk
  have hq : (p.add (k * 6)).block < B := by rw [add_block]; exact hp
  exact ⟨p, e, hp, (hb.cell (p := p.add (k * 6)) hq).trans r0, (hb.cell (p := ⟨_, _, none⟩) hq).trans r1, (hb.cell (p := ⟨_, _, none⟩) hq).trans r2, (hb.cell (p := ⟨_, _, none⟩) hq).trans r3, (hb.cell (p := ⟨_, _, none⟩) hq).trans r4, (hb.cell (p := ⟨_, _, none⟩) hq).trans r5, h1.below hb, h2⟩⟩
end Go.Proofs.Ytmlekkbjmfknfaa
