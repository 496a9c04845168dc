/-
  Files that are looked up; their sizes; the fuse.
-/
import Derived.Test.YtebkgcnldbkgeaaDkB
namespace Go.Proofs.Ytebkgcnldbkgeaa
open Go.RowKit Go.Lib Go.Sort Go.Maps
set_option linter.unusedVariables false
set_option linter.unusedSimpArgs false

/-- the file of a name -/
def Dsk.at_ (D : Dsk) (s : ByteArray) : Option Hd := getT Hd.key D.H s.data.toList
theorem at_mem {D : Dsk} {s : ByteArray} {h : Hd} (e : D.at_ s = some h) : h ∈ D.H := getT_mem _ e
theorem at_name {D : Dsk} {s : ByteArray} {h : Hd} (e : D.at_ s = some h) : h.name = s := by
  have := getT_key Hd.key e
  unfold Hd.key at this
  apply ByteArray.ext
  exact Array.toList_inj.1 this
def ptrO (o : Option Hd) : Value := match o with | some h => h.ptr | none => .pointer none
theorem zero_ptr (w : World) : (zeroValue 60).run Try.prog w = .ok (.pointer none) w := by kernel_rfl
theorem keyed9 : Keyed Try.prog 9 := string_keyed Try.underlying9
set_option maxRecDepth 100000 in
set_option maxHeartbeats 1000000 in
theorem file_any (base d : Nat) (D : Dsk) (s : ByteArray) (w : World) (h : Dk w base d D) (hs : s.size ≤ maxLen) :
    Calls Try.prog 28 #[.pointer (some ⟨d, 0, none⟩), .string s] w fun e w' => e = .returned (ptrO (D.at_ s)) ∧ w' = w := by
  have c0 := h.c0
  have h0 := h.mp0
  have h1 := h.mp1
  clear h
  unfold Dsk.at_
  obtain ⟨mp, room, st, lf, H⟩ := D
  simp only at *
  cases mp with
  | none =>
    obtain rfl : H = [] := h0 rfl
    have hl : ∀ W, (Instr.lookup 55 (.map none) (.string s) false).run Try.prog W = .ok (.pointer none) W := fun W => by
      simpa using Maps.look_nil (w := W) false keyed9 Try.underlying55 (zero_ptr W) (WideMaps.keyOf_string_mk Try.underlying9 hs)
    have HX : Hid (ptrO (getT Hd.key ([] : List Hd) s.data.toList) = .pointer none) := rfl
    clear h0 h1
    go_enter Try.func28, Try.ntmps28
    go_wp2_with fail
    go_ret
    exact ⟨by rw [HX.out]; rfl, rfl⟩
  | some m =>
    have hl := (h1 m rfl).2.look (t := 55) (e := 60) keyed9 Try.underlying55 Try.underlying9 (zero_ptr w) s hs
    have hl2 : (Instr.lookup 55 (.map (some m)) (.string s) false).run Try.prog w = .ok (ptrO (getT Hd.key H s.data.toList)) w := by
      rw [hl]
      cases getT Hd.key H s.data.toList <;> rfl
    generalize ptrO (getT Hd.key H s.data.toList) = pv at *
    clear h0 h1 hl
    go_enter Try.func28, Try.ntmps28
    go_wp2_with fail
    go_ret
    exact ⟨rfl, rfl⟩
theorem file_nil (s : ByteArray) (w : World) : Calls Try.prog 28 #[.pointer none, .string s] w fun e w' => e = .returned (.pointer none) ∧ w' = w := by
  go_enter Try.func28, Try.ntmps28
  go_wp2_with fail
  go_ret
  exact ⟨rfl, rfl⟩
def sizeO (o : Option Hd) : Nat := match o with | some h => h.b.length | none => 0
def keptO (o : Option Hd) : Nat := match o with | some h => h.kept | none => 0
theorem slice_of_row {w : World} {base n : Nat} {e : TypeId} {v : Value} {xs : List Value} (h : w.ownsRow base e 1 v n xs) : ∃ A c, v = .slice A n c ∧ n ≤ c ∧ c ≤ maxLen := by
  rcases h.2 with ⟨rfl, rfl⟩ | ⟨b, cap, cur, rfl, _, _, hnc, hm, _⟩
  · exact ⟨none, 0, rfl, Nat.le_refl _, Nat.zero_le _⟩
  · exact ⟨_, cap, rfl, hnc, hm⟩
set_option maxRecDepth 100000 in
set_option maxHeartbeats 1000000 in
theorem size_any4 (base d : Nat) (D : Dsk) (s : ByteArray) (w : World) (h : Dk w base d D) (hs : s.size ≤ maxLen) :
    Calls Try.prog 51 #[.pointer (some ⟨d, 0, none⟩), .string s] w fun e w' => e = .returned (.int .i64 (sizeO (D.at_ s) : Int)) ∧ w' = w := by
  have HF := Lib.hid (file_any base d D s w h hs)
  cases ha : D.at_ s with
  | none =>
    rw [ha] at HF
    unfold ptrO at HF
    simp only at HF
    clear h ha
    go_enter Try.func51, Try.ntmps51
    go_wp2_with (go_at_call 28; (with_reducible refine HF.out.mono ?_); rintro e w1 ⟨rfl, hw1⟩; have hw1' := hw1.symm; subst hw1')
    go_ret
    exact ⟨rfl, rfl⟩
  | some f =>
    have hfl := h.fl f (at_mem ha)
    obtain ⟨Af, cf, hv, _, _⟩ := slice_of_row hfl.row
    have c0 : w.cell? ⟨f.fb, 0, none⟩ = some f.v := cell_of_row w _ 0 _ _ _ hfl.blk
    rw [hv] at c0
    rw [ha] at HF
    unfold ptrO Hd.ptr at HF
    unfold sizeO
    simp only at HF ⊢
    clear h ha hfl hv
    go_enter Try.func51, Try.ntmps51
    go_wp2_with (go_at_call 28; (with_reducible refine HF.out.mono ?_); rintro e w1 ⟨rfl, hw1⟩; have hw1' := hw1.symm; subst hw1')
    go_ret
    exact ⟨rfl, rfl⟩
set_option maxRecDepth 100000 in
set_option maxHeartbeats 1000000 in
theorem kept_any4 (base d : Nat) (D : Dsk) (s : ByteArray) (w : World) (h : Dk w base d D) (hs : s.size ≤ maxLen) :
    Calls Try.prog 13 #[.pointer (some ⟨d, 0, none⟩), .string s] w fun e w' => e = .returned (.int .i64 (keptO (D.at_ s) : Int)) ∧ w' = w := by
  have HF := Lib.hid (file_any base d D s w h hs)
  cases ha : D.at_ s with
  | none =>
    rw [ha] at HF
    unfold ptrO at HF
    simp only at HF
    clear h ha
    go_enter Try.func13, Try.ntmps13
    go_wp2_with (go_at_call 28; (with_reducible refine HF.out.mono ?_); rintro e w1 ⟨rfl, hw1⟩; have hw1' := hw1.symm; subst hw1')
    go_ret
    exact ⟨rfl, rfl⟩
  | some f =>
    have hfl := h.fl f (at_mem ha)
    have c1 : w.cell? ⟨f.fb, 1, none⟩ = some (.int .i64 (f.kept : Int)) := cell_of_row w _ 1 _ _ _ hfl.blk
    rw [ha] at HF
    unfold ptrO Hd.ptr at HF
    unfold keptO
    simp only at HF ⊢
    clear h ha hfl
    go_enter Try.func13, Try.ntmps13
    go_wp2_with (go_at_call 28; (with_reducible refine HF.out.mono ?_); rintro e w1 ⟨rfl, hw1⟩; have hw1' := hw1.symm; subst hw1')
    go_ret
    exact ⟨rfl, rfl⟩
set_option maxRecDepth 100000 in
set_option maxHeartbeats 1000000 in
theorem fuse_any (base d : Nat) (D : Dsk) (n : Int) (w : World) (h : Dk w base d D) (h1 : n ≤ 9223372036854775807) :
    Calls Try.prog 27 #[.pointer (some ⟨d, 0, none⟩), .int .i64 n] w fun e w' => e = .returned (.tuple #[]) ∧ Dk w' base d (fuseD D n) ∧ Turn [d] w w' := by
  have HG := Lib.hid (gone_any base d D w h)
  have HD := Lib.hid h
  clear h
  unfold fuseD
  cases hb : burntB D with
  | true =>
    rw [hb] at HG
    rw [if_pos rfl]
    clear hb
    go_enter Try.func27, Try.ntmps27
    go_wp2_with (go_at_call 11; (with_reducible refine HG.out.mono ?_); rintro e w1 ⟨rfl, hb1⟩)
    refine bodyPost_ret (results_none rfl _ _ _) rfl ?_
    exact ⟨rfl, HD.out.below hb1 (Nat.le_refl _), Turn.of_below hb1⟩
  | false =>
    rw [hb] at HG
    rw [if_neg (by simp)]
    clear hb
    obtain ⟨st, hst⟩ : ∃ st, decide (0 ≤ n) = st := ⟨_, rfl⟩
    obtain ⟨lf, hlf⟩ : ∃ lf, (if n < 0 then 0 else n) = lf := ⟨_, rfl⟩
    have hl0 : 0 ≤ lf := by rw [← hlf]; split <;> omega
    have hl1 : lf ≤ 9223372036854775807 := by rw [← hlf]; split <;> omega
    have hmx : max n 0 = lf := by rw [← hlf]; split <;> omega
    rw [hst, hlf]
    have HR : Hid (∀ W, Dk W base d D → Dk ((W.setCell ⟨d, 2, none⟩ (.bool st)).setCell ⟨d, 3, none⟩ (.int .i64 lf)) base d { D with set := st, left := lf } ∧ Turn [d] W ((W.setCell ⟨d, 2, none⟩ (.bool st)).setCell ⟨d, 3, none⟩ (.int .i64 lf))) := fun W hW => by
      have hb2 : (W.setCell ⟨d, 2, none⟩ (.bool st)).heap[d]? = some (.cells #[.map D.mp, .int .i64 D.room, .bool st, .int .i64 D.left] 59 (0, 0)) := by rw [heap_setCell_same W d 2 _ _ _ hW.blk]; rfl
      refine ⟨hW.own D.room st lf (by rw [heap_setCell_same _ d 3 _ _ _ hb2]; rfl) (fun k hk hne => (Below.heap_setCell _ _ _ k (fun e => hne e)).trans (Below.heap_setCell W _ _ k (fun e => hne e))) hW.r1 hW.r2 hl0 hl1, ?_⟩
      exact (Turn.of_grown (grown_setD W d 2 _) (by simp)).trans (F' := [d]) (Turn.of_grown (grown_setD _ d 3 _) (by simp)) (fun k hk => .inl hk)
    clear hl0 hl1
    go_enter Try.func27, Try.ntmps27
    go_wp2_with (go_at_call 11; (with_reducible refine HG.out.mono ?_); rintro e w1 ⟨rfl, hb1⟩; have HD1 := Lib.hid (HD.out.below hb1 (Nat.le_refl _)); have c2 := HD1.out.c2; have c3 := HD1.out.c3; have f2 := HD1.out.free 2; have f3 := HD1.out.free 3; have hdl := HD1.out.dlt)
    go_end0
    exact ⟨rfl, (HR.out w1 HD1.out).1, (Turn.of_below hb1).trans (HR.out w1 HD1.out).2 (fun k hk => .inl hk)⟩
end Go.Proofs.Ytebkgcnldbkgeaa
