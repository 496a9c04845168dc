/-
  A disk as pure data; its calls as functions of that.
-/
import Derived.Test.YtebkgcnldbkgeaaDkP
namespace Go.Proofs.Ytebkgcnldbkgeaa
open Go.RowKit Go.Lib Go.Sort Go.Maps
set_option linter.unusedVariables false
set_option linter.unusedSimpArgs false

structure PD where
  F : List Fl
  room : Int
  set : Bool
  left : Int
def pd (D : Dsk) : PD := ⟨filesD D, D.room, D.set, D.left⟩
def PD.burnt (p : PD) : Bool := p.set && (p.left == 0)
def PD.burn (p : PD) : PD := if p.set = true then { p with left := p.left - 1 } else p
def PD.free (p : PD) : Nat := (p.room - (sumL p.F : Int)).toNat
def PD.appE (p : PD) (s : ByteArray) (x : Nat) : Nat := if nameB s = false then 2 else if p.free < x ∨ ((getT Fl.key p.F s.data.toList).isNone = true ∧ 128 ≤ p.F.length) then 5 else 0
def PD.chg (p : PD) (E : Nat) (F : List Fl) : Nat × PD := if p.burnt = true then (9, p) else if E = 0 then (0, PD.burn { p with F := F }) else (E, p)
def PD.append (p : PD) (s : ByteArray) (x : List UInt8) : Nat × PD := p.chg (p.appE s x.length) (addF s x (mkF s p.F))
def PD.sync (p : PD) (NS : List ByteArray) : Nat × PD := p.chg (if hereB NS p.F then 0 else 3) (syncF NS p.F)
def PD.fuse (p : PD) (n : Int) : PD := if p.burnt = true then p else { p with set := decide (0 ≤ n), left := if n < 0 then 0 else n }
def PD.crash (p : PD) (P : List Int) : PD := ⟨crashF P p.F p.F.length, p.room, false, 0⟩
theorem pd_burnt (D : Dsk) : burntB D = (pd D).burnt := rfl
theorem pd_burn (D : Dsk) : pd (burnD D) = (pd D).burn := by
  unfold burnD PD.burn pd
  simp only
  split <;> rfl
theorem pd_free (D : Dsk) : freeD D = (pd D).free := by unfold freeD PD.free pd; rw [sumL_files]
theorem pd_appE (D : Dsk) (s : ByteArray) (x : Nat) : appE4 D s x = (pd D).appE s x := by
  unfold appE4 PD.appE
  rw [pd_free]
  have e1 : (getT Fl.key (pd D).F s.data.toList).isNone = (D.at_ s).isNone := by
    show (getT Fl.key (filesD D) _).isNone = _
    rw [get_files, Option.isNone_map]
    rfl
  have e2 : (pd D).F.length = D.H.length := by show (filesD D).length = _; unfold filesD; rw [List.length_map]
  rw [e1, e2]
theorem pd_same {D D1 : Dsk} (h : SameD D D1) : pd D1 = { pd D with F := filesD D1 } := by unfold pd; rw [h.room, h.set, h.left]
theorem pd_chg {D D' : Dsk} {E er : Nat} {F1 : List Fl} (h : ChgP D (fun er D1 => er = E ∧ filesD D1 = if er = 0 then F1 else filesD D) er D') : (er, pd D') = (pd D).chg E F1 := by
  unfold ChgP at h
  unfold PD.chg
  rw [← pd_burnt]
  by_cases hb : burntB D = true
  · rw [if_pos hb] at h ⊢
    rw [h.1, h.2]
  · rw [if_neg hb] at h ⊢
    obtain ⟨D1, hs, ⟨he, hf⟩, hd⟩ := h
    subst he
    by_cases h0 : er = 0
    · subst h0
      rw [if_pos rfl] at hf hd ⊢
      rw [hd, pd_burn, pd_same hs, hf]
    · rw [if_neg h0] at hf hd ⊢
      rw [hd, pd_same hs, hf]
      rfl
theorem append_pd (base d : Nat) (D : Dsk) (s : ByteArray) (A : Option Addr) (n c : Nat) (L : List (List UInt8)) (w : World) (h : Dk w base d D) (hb : base ≤ w.heap.size) (hs : s.size ≤ 1099511627776) (hn : n ≤ maxLen)
    (hL : ∀ W, Turn (D.foot d) w W → Rs W W.heap.size A n L) :
    Calls Try.prog 26 #[.pointer (some ⟨d, 0, none⟩), .string s, .slice A n c] w fun e w' => ∃ D', e = .returned (.int .i64 (((pd D).append s L.flatten).1 : Int)) ∧ Then base d w w' D D' ∧ pd D' = ((pd D).append s L.flatten).2 :=
  (append_any4 base d D s A n c L w h hb hs hn hL).mono fun e w' h => by
    obtain ⟨er, D', he, ht, hq⟩ := h
    have h1 := pd_chg hq
    rw [pd_appE] at h1
    have h2 : (er, pd D') = (pd D).append s L.flatten := h1
    exact ⟨D', by rw [he, ← h2], ht, by rw [← h2]⟩
theorem sync_pd (base d : Nat) (D : Dsk) (A : Option Addr) (n c : Nat) (NS : List ByteArray) (w : World) (h : Dk w base d D) (hb : base ≤ w.heap.size) (hn0 : 0 < n) (hn : n ≤ maxLen) (hN : Nms w (D.foot d) A n NS) :
    Calls Try.prog 14 #[.pointer (some ⟨d, 0, none⟩), .slice A n c] w fun e w' => ∃ D', e = .returned (.int .i64 (((pd D).sync NS).1 : Int)) ∧ Then base d w w' D D' ∧ pd D' = ((pd D).sync NS).2 :=
  (sync_named base d D A n c NS w h hb hn0 hn hN).mono fun e w' h => by
    obtain ⟨er, D', he, ht, hq⟩ := h
    have h2 : (er, pd D') = (pd D).sync NS := pd_chg hq
    exact ⟨D', by rw [he, ← h2], ht, by rw [← h2]⟩
theorem fuse_pd (base d : Nat) (D : Dsk) (n : Int) (w : World) (h : Dk w base d D) (h1 : n ≤ 9223372036854775807) :
    Calls Try.prog 27 #[.pointer (some ⟨d, 0, none⟩), .int .i64 n] w fun e w' => ∃ D', e = .returned (.tuple #[]) ∧ Then base d w w' D D' ∧ pd D' = (pd D).fuse n :=
  (fuse_any base d D n w h h1).mono fun e w' h => by
    obtain ⟨he, hd, ht⟩ := h
    refine ⟨fuseD D n, he, ⟨hd, ht.mono fun k hk => by rw [List.mem_singleton] at hk; subst hk; exact foot_d, fun k hk => .inl ?_⟩, ?_⟩
    · unfold fuseD at hk
      split at hk <;> exact hk
    · unfold fuseD PD.fuse
      rw [← pd_burnt]
      split <;> rfl
theorem crash_pd (base d : Nat) (D : Dsk) (A : Option Addr) (n c : Nat) (P : List Int) (w : World) (h : Dk w base d D) (hP : Isd w w.heap.size A n P) (hn : n ≤ maxLen) :
    Calls Try.prog 9 #[.pointer (some ⟨d, 0, none⟩), .slice A n c] w fun e w' => ∃ (cb : Nat) (Dc : Dsk), e = .returned (.pointer (some ⟨cb, 0, none⟩)) ∧ Dk w' w.heap.size cb Dc ∧ pd Dc = (pd D).crash P ∧ Below w.heap.size w w' :=
  (crash_any base d D A n c P w h hP hn).mono fun e w' h => by
    obtain ⟨cb, Dc, he, hd, h1, h2, h3, h4, h5⟩ := h
    refine ⟨cb, Dc, he, hd, ?_, h5⟩
    unfold pd PD.crash
    rw [h1, h2, h3, h4]
theorem read_pd (base d : Nat) (D : Dsk) (s : ByteArray) (w : World) (h : Dk w base d D) (hs : s.size ≤ maxLen) {f : Fl} (hf : getT Fl.key (pd D).F s.data.toList = some f) :
    Calls Try.prog 12 #[.pointer (some ⟨d, 0, none⟩), .string s] w fun e w' => ∃ v, e = .returned (.tuple #[v, .int .i64 0]) ∧ Own w' w.heap.size v f.b ∧ Below w.heap.size w w' :=
  (read_any4 base d D s w h hs).mono fun e w' h => by
    obtain ⟨h1, h2⟩ := h
    have h3 : (D.at_ s).map Hd.f = some f := by rw [← hf]; exact (get_files D _).symm
    cases h4 : D.at_ s with
    | none => rw [h4] at h3; cases h3
    | some g =>
      rw [h4] at h1 h3
      injection h3 with h3
      subst h3
      obtain ⟨v, he, ho⟩ := h1
      exact ⟨v, he, ho, h2⟩
def pa0 : PD := ⟨[], 10, false, 0⟩
def pa1 : PD := ⟨[⟨⟨#[97]⟩, [49, 50, 51, 52, 53, 54, 55], 0⟩], 10, false, 0⟩
def pa2 : PD := ⟨[⟨⟨#[97]⟩, [49, 50, 51, 52, 53, 54, 55], 7⟩], 10, false, 0⟩
def pa3 : PD := ⟨[⟨⟨#[97]⟩, [49, 50, 51, 52, 53, 54, 55, 56, 57], 7⟩], 10, false, 0⟩
def pa4 : PD := { pa3 with set := true, left := 1 }
def pa5 : PD := ⟨[⟨⟨#[97]⟩, [49, 50, 51, 52, 53, 54, 55, 56, 57], 7⟩, ⟨⟨#[98]⟩, [], 0⟩], 10, true, 0⟩
theorem ea1 : pa0.append ⟨#[97]⟩ [49, 50, 51, 52, 53, 54, 55] = (0, pa1) := by kernel_rfl
theorem ea2 : pa1.sync [⟨#[97]⟩] = (0, pa2) := by kernel_rfl
theorem ea3 : pa2.append ⟨#[97]⟩ [56, 57] = (0, pa3) := by kernel_rfl
theorem ea4 : pa3.append ⟨#[98]⟩ [49, 50] = (5, pa3) := by kernel_rfl
theorem ea5 : getT Fl.key (pa3.crash []).F [97] = some ⟨⟨#[97]⟩, [49, 50, 51, 52, 53, 54, 55], 7⟩ := by kernel_rfl
theorem ea6 : getT Fl.key (pa3.crash [1]).F [97] = some ⟨⟨#[97]⟩, [49, 50, 51, 52, 53, 54, 55, 56], 8⟩ := by kernel_rfl
theorem ea7 : pa3.fuse 1 = pa4 := by kernel_rfl
theorem ea8 : pa4.append ⟨#[98]⟩ [] = (0, pa5) := by kernel_rfl
theorem ea9 : pa5.sync [⟨#[97]⟩] = (9, pa5) := by kernel_rfl
theorem ea10 : pa5.burnt = true := by kernel_rfl
end Go.Proofs.Ytebkgcnldbkgeaa
