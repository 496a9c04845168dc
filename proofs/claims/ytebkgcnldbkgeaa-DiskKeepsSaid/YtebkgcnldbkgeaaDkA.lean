/-
  A disk in memory: its files, the map that holds them, its room and its fuse.
-/
import Derived.Test.YtebkgcnldbkgeaaMapT
import Derived.Test.YtebkgcnldbkgeaaBytesA
import Derived.Deep.DeepCutAuto
import Derived.Deep.RegionHeld3
namespace Go.Proofs.Ytebkgcnldbkgeaa
open Go.RowKit Go.Lib Go.Sort
set_option linter.unusedVariables false
set_option linter.unusedSimpArgs false

/-- a file: its name, the block it lies in, the slice of its bytes, these, how many are kept -/
structure Hd where
  name : ByteArray
  fb : Nat
  v : Value
  b : List UInt8
  kept : Nat
def Hd.key (h : Hd) : List UInt8 := h.name.data.toList
def Hd.ptr (h : Hd) : Value := .pointer (some ⟨h.fb, 0, none⟩)
/-- a disk as data -/
structure Dsk where
  mp : Option Nat
  room : Int
  set : Bool
  left : Int
  H : List Hd
def Hd.foot (h : Hd) : List Nat := h.fb :: h.v.ownBlock.toList
def Dsk.foot (D : Dsk) (d : Nat) : List Nat := d :: (D.mp.toList ++ D.H.flatMap Hd.foot)
def usedH (H : List Hd) : Nat := (H.map fun h => h.b.length).sum
structure FileAt (w : World) (base : Nat) (h : Hd) : Prop where
  bf : base ≤ h.fb
  blk : w.heap[h.fb]? = some (.cells #[h.v, .int .i64 (h.kept : Int)] 64 (0, 0))
  row : w.ownsRow base 5 1 h.v h.b.length (bvs h.b)
  kept : h.kept ≤ h.b.length
  name : h.name.size ≤ 24
def Apart (a b : Hd) : Prop := a.fb ≠ b.fb ∧ (a.v.ownBlock = none ∨ a.v.ownBlock ≠ b.v.ownBlock)
structure Dk (w : World) (base d : Nat) (D : Dsk) : Prop where
  bd : base ≤ d
  blk : w.heap[d]? = some (.cells #[.map D.mp, .int .i64 D.room, .bool D.set, .int .i64 D.left] 59 (0, 0))
  mp0 : D.mp = none → D.H = []
  mp1 : ∀ m, D.mp = some m → base ≤ m ∧ Mt Hd.key Hd.ptr Try.prog 9 w m D.H
  fl : ∀ h ∈ D.H, FileAt w base h
  nd : D.H.Pairwise Apart
  r1 : 0 ≤ D.room
  r2 : D.room ≤ 4194304
  l1 : 0 ≤ D.left
  l2 : D.left ≤ 9223372036854775807
  len : D.H.length ≤ 128
  tot : usedH D.H ≤ 4194304
section
variable {w w' w'' : World} {base d : Nat} {D : Dsk}
theorem foot_d : d ∈ D.foot d := by simp [Dsk.foot]
theorem foot_mp {m : Nat} (h : D.mp = some m) : m ∈ D.foot d := by simp [Dsk.foot, h]
theorem foot_fl {f : Hd} {k : Nat} (h : f ∈ D.H) (hk : k ∈ f.foot) : k ∈ D.foot d := by
  simp only [Dsk.foot, List.mem_cons, List.mem_append, List.mem_flatMap]
  exact .inr (.inr ⟨f, h, hk⟩)
theorem grown_setD (a : World) (g i : Nat) (u : Value) : a.grownBy (a.setCell ⟨g, i, none⟩ u) (some g) :=
  ⟨rfl, rfl, rfl, by simp [World.setCell], fun k _ hk => Below.heap_setCell a _ u k (fun e => hk (by rw [e]))⟩
theorem row_same {base s n : Nat} {e : TypeId} {v : Value} {xs : List Value} (h : w.ownsRow base e s v n xs) (hk : ∀ g, v.ownBlock = some g → w'.heap[g]? = w.heap[g]?) : w'.ownsRow base e s v n xs := by
  refine ⟨h.1, ?_⟩
  rcases h.2 with h2 | ⟨g, cap, cur, rfl, hb, hh, r⟩
  · exact .inl h2
  · exact .inr ⟨g, cap, cur, rfl, hb, (hk g rfl).trans hh, r⟩
theorem row_has {base s n : Nat} {e : TypeId} {v : Value} {xs : List Value} (h : w.ownsRow base e s v n xs) {g : Nat} (hg : v.ownBlock = some g) : ∃ cur, w.heap[g]? = some (.cells cur e (0, 0)) := by
  rcases h.2 with ⟨rfl, _⟩ | ⟨g', cap, cur, rfl, hb, hh, r⟩
  · cases hg
  · injection hg with hg
    have hg' : g' = g := hg
    subst hg'
    exact ⟨cur, hh⟩
theorem FileAt.keep {h : Hd} (hf : FileAt w base h) (hk : ∀ k ∈ h.foot, w'.heap[k]? = w.heap[k]?) : FileAt w' base h :=
  ⟨hf.bf, (hk h.fb (by simp [Hd.foot])).trans hf.blk, row_same hf.row fun g hg => hk g (by simp [Hd.foot, hg]), hf.kept, hf.name⟩
theorem Dk.keep (h : Dk w base d D) (hk : ∀ k ∈ D.foot d, w'.heap[k]? = w.heap[k]?) : Dk w' base d D :=
  ⟨h.bd, (hk d (by simp [Dsk.foot])).trans h.blk, h.mp0, fun m hm => ⟨(h.mp1 m hm).1, (h.mp1 m hm).2.kept (hk m (by simp [Dsk.foot, hm]))⟩,
   fun f hf => (h.fl f hf).keep fun k hk2 => hk k (by simp only [Dsk.foot, List.mem_cons, List.mem_append, List.mem_flatMap]; exact .inr (.inr ⟨f, hf, hk2⟩)), h.nd, h.r1, h.r2, h.l1, h.l2, h.len, h.tot⟩
theorem Dk.dlt (h : Dk w base d D) : d < w.heap.size := (Array.getElem?_eq_some_iff.1 h.blk).1
theorem Dk.lt (h : Dk w base d D) : ∀ k ∈ D.foot d, k < w.heap.size := fun k hk => by
  simp only [Dsk.foot, List.mem_cons, List.mem_append, List.mem_flatMap, Option.mem_toList] at hk
  rcases hk with rfl | hk | ⟨f, hf, hk⟩
  · exact h.dlt
  · exact (h.mp1 k hk).2.lt
  · have hfl := h.fl f hf
    simp only [Hd.foot, List.mem_cons, Option.mem_toList] at hk
    rcases hk with rfl | hk
    · exact (Array.getElem?_eq_some_iff.1 hfl.blk).1
    · obtain ⟨cur, hc⟩ := row_has hfl.row hk
      exact (Array.getElem?_eq_some_iff.1 hc).1
theorem Dk.base_le (h : Dk w base d D) : ∀ k ∈ D.foot d, base ≤ k := fun k hk => by
  simp only [Dsk.foot, List.mem_cons, List.mem_append, List.mem_flatMap, Option.mem_toList] at hk
  rcases hk with rfl | hk | ⟨f, hf, hk⟩
  · exact h.bd
  · exact (h.mp1 k hk).1
  · have hfl := h.fl f hf
    simp only [Hd.foot, List.mem_cons, Option.mem_toList] at hk
    rcases hk with rfl | hk
    · exact hfl.bf
    · exact (World.ownsRow.lt hfl.row k hk).1
theorem Dk.below {B : Nat} (h : Dk w base d D) (hb : Below B w w') (hB : w.heap.size ≤ B) : Dk w' base d D := h.keep fun k hk => hb.block k (by have := h.lt k hk; omega)
theorem Dk.alloc (h : Dk w base d D) (o : Obj) : Dk (w.alloc o) base d D := h.below ((Below.refl w.heap.size w).alloc (Nat.le_refl _) o) (Nat.le_refl _)
theorem Dk.drew (h : Dk w base d D) : Dk w.drew base d D := h.below ((Below.refl w.heap.size w).drew) (Nat.le_refl _)
theorem Dk.c0 (h : Dk w base d D) : w.cell? ⟨d, 0, none⟩ = some (.map D.mp) := cell_of_row w d 0 _ _ _ h.blk
theorem Dk.c1 (h : Dk w base d D) : w.cell? ⟨d, 1, none⟩ = some (.int .i64 D.room) := cell_of_row w d 1 _ _ _ h.blk
theorem Dk.c2 (h : Dk w base d D) : w.cell? ⟨d, 2, none⟩ = some (.bool D.set) := cell_of_row w d 2 _ _ _ h.blk
theorem Dk.c3 (h : Dk w base d D) : w.cell? ⟨d, 3, none⟩ = some (.int .i64 D.left) := cell_of_row w d 3 _ _ _ h.blk
theorem Dk.free (h : Dk w base d D) (i : Nat) : w.frozen? ⟨d, i, none⟩ = false := frozen_of_row w d i _ _ h.blk
/-- d's block is not among those of its files and its map -/
theorem Dk.d_out (h : Dk w base d D) : d ∉ D.mp.toList ++ D.H.flatMap Hd.foot := fun hd => by
  have hb := h.blk
  simp only [List.mem_append, List.mem_flatMap, Option.mem_toList] at hd
  rcases hd with hd | ⟨f, hf, hd⟩
  · obtain ⟨_, _, es, clock, h1, _⟩ := (h.mp1 d hd).2.own
    rw [hb] at h1; cases h1
  · have hfl := h.fl f hf
    simp only [Hd.foot, List.mem_cons, Option.mem_toList] at hd
    rcases hd with rfl | hd
    · have h2 := hfl.blk
      rw [hb] at h2
      injection h2 with h2
      injection h2 with _ h3
      exact absurd h3 (by decide)
    · obtain ⟨cur, h2⟩ := row_has hfl.row hd
      rw [hb] at h2
      injection h2 with h2
      injection h2 with _ h3
      exact absurd h3 (by decide)
/-- the disk's own block is written -/
theorem Dk.own (h : Dk w base d D) (room : Int) (st : Bool) (left : Int) (hb : w'.heap[d]? = some (.cells #[.map D.mp, .int .i64 room, .bool st, .int .i64 left] 59 (0, 0))) (hk : ∀ k, k < w.heap.size → k ≠ d → w'.heap[k]? = w.heap[k]?)
    (r1 : 0 ≤ room) (r2 : room ≤ 4194304) (l1 : 0 ≤ left) (l2 : left ≤ 9223372036854775807) : Dk w' base d { D with room := room, set := st, left := left } :=
  ⟨h.bd, hb, h.mp0, fun m hm => ⟨(h.mp1 m hm).1, (h.mp1 m hm).2.kept (hk m (h.lt m (foot_mp hm)) (fun e => h.d_out (by rw [← e]; exact List.mem_append.2 (.inl (Option.mem_toList.2 hm)))))⟩,
   fun f hf => (h.fl f hf).keep fun k hk2 => hk k (h.lt k (foot_fl hf hk2)) (fun e => h.d_out (by rw [← e]; exact List.mem_append.2 (.inr (List.mem_flatMap.2 ⟨f, hf, hk2⟩)))), h.nd, r1, r2, l1, l2, h.len, h.tot⟩
end
/-- all blocks but these are as they were -/
structure Turn (F : List Nat) (w w' : World) : Prop where
  os : w'.os = w.os
  tape : w'.tape = w.tape
  output : w'.output = w.output
  size : w.heap.size ≤ w'.heap.size
  block : ∀ k, k < w.heap.size → k ∉ F → w'.heap[k]? = w.heap[k]?
section
variable {w w' w'' : World} {F F' : List Nat}
theorem Turn.refl (F : List Nat) (w : World) : Turn F w w := ⟨rfl, rfl, rfl, Nat.le_refl _, fun _ _ _ => rfl⟩
theorem Turn.of_below (hb : Below w.heap.size w w') : Turn F w w' := ⟨hb.os, hb.tape, hb.output, hb.size, fun k hk _ => hb.block k hk⟩
theorem Turn.of_grown {g : Nat} (hb : w.grownBy w' (some g)) (hg : g ∈ F) : Turn F w w' := ⟨hb.os, hb.tape, hb.output, hb.size, fun k hk h1 => hb.block k hk (fun e => by injection e with e; subst e; exact h1 hg)⟩
theorem Turn.trans (h : Turn F w w') (h' : Turn F' w' w'') (hF : ∀ k ∈ F', k ∈ F ∨ w.heap.size ≤ k) : Turn F w w'' := ⟨h'.os.trans h.os, h'.tape.trans h.tape, h'.output.trans h.output, Nat.le_trans h.size h'.size, fun k hk h1 => (h'.block k (Nat.lt_of_lt_of_le hk h.size) (fun h2 => (hF k h2).elim h1 (fun h3 => by omega))).trans (h.block k hk h1)⟩
theorem Turn.below {B : Nat} (h : Turn F w w') (hF : ∀ k ∈ F, B ≤ k) (hB : B ≤ w.heap.size) : Below B w w' := ⟨h.os, h.tape, h.output, h.size, fun k hk => h.block k (by omega) (fun h2 => by have := hF k h2; omega)⟩
end
def burntB (D : Dsk) : Bool := D.set && (D.left == 0)
set_option maxRecDepth 100000 in
set_option maxHeartbeats 1000000 in
theorem burnt_any (base d : Nat) (D : Dsk) (w : World) (h : Dk w base d D) :
    Calls Try.prog 36 #[.pointer (some ⟨d, 2, none⟩)] w fun e w' => e = .returned (.bool (burntB D)) ∧ Below w.heap.size w w' := by
  have c2 := h.c2
  have c3 := h.c3
  unfold burntB
  generalize D.set = st at *
  generalize D.left = lf at *
  clear h
  cases st with
  | false =>
    go_enter Try.func36, Try.ntmps36
    go_wp2_with fail
    go_ret
    exact ⟨rfl, Below.refl _ _⟩
  | true =>
    obtain ⟨bb, hbb⟩ : ∃ bb, (lf == 0) = bb := ⟨_, rfl⟩
    rw [hbb]
    go_enter Try.func36, Try.ntmps36
    go_wp2_with fail
    go_ret
    exact ⟨by simp, Below.refl _ _⟩
set_option maxRecDepth 100000 in
set_option maxHeartbeats 1000000 in
theorem gone_any (base d : Nat) (D : Dsk) (w : World) (h : Dk w base d D) :
    Calls Try.prog 11 #[.pointer (some ⟨d, 0, none⟩)] w fun e w' => e = .returned (.bool (burntB D)) ∧ Below w.heap.size w w' := by
  have HB := Lib.hid (burnt_any base d D w h)
  clear h
  go_enter Try.func11, Try.ntmps11
  go_wp2_with (go_at_call 36; (with_reducible refine HB.out.mono ?_); rintro e w1 ⟨rfl, hb1⟩)
  go_ret
  exact ⟨rfl, hb1⟩
theorem gone_nil (w : World) : Calls Try.prog 11 #[.pointer none] w fun e w' => e = .returned (.bool true) ∧ Below w.heap.size w w' := by
  go_enter Try.func11, Try.ntmps11
  go_wp2_with fail
  go_ret
  exact ⟨rfl, Below.refl _ _⟩
def burnD (D : Dsk) : Dsk := if D.set = true then { D with left := D.left - 1 } else D
set_option maxRecDepth 100000 in
set_option maxHeartbeats 1000000 in
theorem burn_any (base d : Nat) (D : Dsk) (w : World) (h : Dk w base d D) (hb : burntB D = false) :
    Calls Try.prog 60 #[.pointer (some ⟨d, 2, none⟩)] w fun e w' => e = .returned (.tuple #[]) ∧ Dk w' base d (burnD D) ∧ Turn [d] w w' := by
  have c2 := h.c2
  have c3 := h.c3
  have f3 := h.free 3
  have HD := Lib.hid h
  clear h
  obtain ⟨mp, room, st, lf, H⟩ := D
  unfold burntB burnD at *
  simp only at *
  have l1 := HD.out.l1
  have l2 := HD.out.l2
  simp only at l1 l2
  cases st with
  | false =>
    go_enter Try.func60, Try.ntmps60
    go_wp2_with fail
    go_end0
    exact ⟨rfl, HD.out, Turn.refl _ _⟩
  | true =>
    have hlf : lf ≠ 0 := by simpa using hb
    have HR : Hid (Dk (w.setCell ⟨d, 3, none⟩ (.int .i64 (lf - 1))) base d ⟨mp, room, true, lf - 1, H⟩) := HD.out.own room true (lf - 1) (by rw [heap_setCell_same w d 3 _ _ _ HD.out.blk]; rfl) (fun k hk hne => Below.heap_setCell w _ _ k (fun e => hne e)) HD.out.r1 HD.out.r2 (by omega) (by omega)
    have ew : IntKind.i64.wrap (lf - 1) = lf - 1 := by rw [IntKind.wrap_i64]; omega
    clear hb
    go_enter Try.func60, Try.ntmps60
    go_wp2_with fail
    go_end0
    exact ⟨rfl, HR.out, Turn.of_grown (grown_setD w d 3 _) (by simp)⟩
end Go.Proofs.Ytebkgcnldbkgeaa
