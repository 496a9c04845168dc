/-
  The document's disk in memory; how many bytes it has, and where a file stands.
-/
import Derived.Test.YtebkgcnldbkgeaaDkQ
import Derived.Deep.RegionLaw
import Derived.Deep.AppendLies
import Derived.Deep.QuietTactic
import Derived.BigQuiet
namespace Go.Proofs.Ytebkgcnldbkgeaa
open Go.RowKit Go.Lib Go.Sort Go.Maps
set_option linter.unusedVariables false
set_option linter.unusedSimpArgs false

def bst (l : List UInt8) : ByteArray := ⟨l.toArray⟩
theorem bst_size (l : List UInt8) : (bst l).size = l.length := by show l.toArray.size = _; simp
theorem bst_of (s : ByteArray) : bst s.data.toList = s := by unfold bst; simp
theorem bst_inj {a b : List UInt8} (h : bst a = bst b) : a = b := by unfold bst at h; injection h with h; simpa using h
instance : Inhabited Fl := ⟨⟨⟨#[]⟩, [], 0⟩⟩
def Fl.cells (f : Fl) : List Value := [.string f.name, .string (bst f.b), .int .i64 (f.kept : Int)]
def fcs (F : List Fl) : List Value := F.flatMap Fl.cells
section
variable {α : Type} (f : α → List Value) (m : Nat)
theorem fl_length (hf : ∀ a, (f a).length = m) (L : List α) : (L.flatMap f).length = L.length * m := by
  induction L with
  | nil => simp
  | cons r L ih => rw [List.flatMap_cons, List.length_append, ih, hf, List.length_cons, Nat.add_mul, Nat.one_mul, Nat.add_comm]
theorem fl_get [Inhabited α] (hf : ∀ a, (f a).length = m) (L : List α) : ∀ (k j : Nat), k < L.length → j < m → (L.flatMap f)[k * m + j]? = (f (L.getD k default))[j]? := by
  induction L with
  | nil => intro k j h; exact absurd h (by simp)
  | cons r L ih =>
    intro k j h hj
    rw [List.flatMap_cons]
    cases k with
    | zero => rw [List.getElem?_append_left (by rw [hf]; omega)]; simp
    | succ k =>
      have e : (k + 1) * m + j - (f r).length = k * m + j := by rw [hf, Nat.add_mul, Nat.one_mul]; omega
      rw [List.getElem?_append_right (by rw [hf, Nat.add_mul, Nat.one_mul]; omega), e, ih k j (by simpa using h) hj]
      simp
theorem fl_take (hf : ∀ a, (f a).length = m) (L : List α) : ∀ k, (L.flatMap f).take (k * m) = (L.take k).flatMap f := by
  induction L with
  | nil => intro k; simp
  | cons r L ih =>
    intro k
    cases k with
    | zero => simp
    | succ k => rw [List.flatMap_cons, show (k + 1) * m = (f r).length + k * m from by rw [hf, Nat.add_mul, Nat.one_mul, Nat.add_comm], List.take_length_add_append, ih k]; simp
/-- '.slice A n c' is a slice of such things -/
structure Ths (w : World) (B : Nat) (A : Option Addr) (n : Nat) (L : List α) : Prop where
  len : L.length = n
  lies : Lies w B A (L.flatMap f)
end
theorem fcs_length (F : List Fl) : (fcs F).length = F.length * 3 := fl_length Fl.cells 3 (fun _ => rfl) F
theorem fcs_append (F G : List Fl) : fcs (F ++ G) = fcs F ++ fcs G := by simp [fcs]
theorem fcs_one (F : List Fl) : ∀ u ∈ fcs F, u.oneCell' = true := fun u hu => by
  obtain ⟨f, _, hf⟩ := List.mem_flatMap.1 hu
  simp [Fl.cells] at hf
  rcases hf with rfl | rfl | rfl <;> rfl
theorem zero_rfile : (Try.prog.info? 84).map (fun i => (i.zero, i.size, i.bytes)) = some (some (.agg #[.string ⟨#[]⟩, .string ⟨#[]⟩, .int .i64 0]), 3, 40) := by kernel_rfl
abbrev Fs (w : World) (B : Nat) (A : Option Addr) (n : Nat) (F : List Fl) : Prop := Ths Fl.cells w B A n F
section
variable {w w' : World} {B B' n : Nat} {A : Option Addr} {F : List Fl}
theorem add_posF (p : Addr) (j : Nat) (h : 0 < j) : p.add j = ⟨p.block, p.off + j, none⟩ := by unfold Addr.add; rw [if_neg (by omega)]
theorem Ths.below {α : Type} {f : α → List Value} {L : List α} (h : Ths f w B A n L) (hb : Below B w w') : Ths f w' B A n L := ⟨h.len, h.lies.keep fun p hp => hb.cell hp⟩
theorem Ths.wider {α : Type} {f : α → List Value} {L : List α} (h : Ths f w B A n L) (hB : B ≤ B') : Ths f w B' A n L := ⟨h.len, h.lies.wider hB⟩
theorem Ths.at_ {α : Type} [Inhabited α] {f : α → List Value} {L : List α} {m : Nat} (hf : ∀ a, (f a).length = m) (hm : 0 < m) (h : Ths f w B A n L) {k : Nat} (hk : k < n) :
    ∃ p, A = some p ∧ p.block < B ∧ (∀ u, (f (L.getD k default))[0]? = some u → w.cell? (p.add (k * m)) = some u) ∧ ∀ j u, 0 < j → j < m → (f (L.getD k default))[j]? = some u → w.cell? ⟨(p.add (k * m)).block, (p.add (k * m)).off + j, none⟩ = some u := by
  have hl := h.len
  have g : ∀ j u, j < m → (f (L.getD k default))[j]? = some u → ∃ p, A = some p ∧ p.block < B ∧ w.cell? ((p.add (k * m)).add j) = some u := by
    intro j u hj hu
    obtain ⟨p, e, hb, hc⟩ := h.lies.get (k * m + j) u ((fl_get f m hf L k j (by omega) hj).trans hu)
    exact ⟨p, e, hb, by rw [add_twice]; exact hc⟩
  have h0 : 0 < (f (L.getD k default)).length := by rw [hf]; exact hm
  obtain ⟨p, e, hb, _⟩ := g 0 _ hm (List.getElem?_eq_getElem h0)
  refine ⟨p, e, hb, fun u hu => ?_, fun j u h0 hj hu => ?_⟩
  · obtain ⟨q, e', _, c⟩ := g 0 u hm hu
    rw [e] at e'
    injection e' with e'
    subst e'
    rw [add_twice, Nat.add_zero] at c; exact c
  · obtain ⟨q, e', _, c⟩ := g j u hj hu
    rw [e] at e'
    injection e' with e'
    subst e'
    rw [← add_posF _ j h0]; exact c
theorem Fs.row (h : Fs w B A n F) {k : Nat} (hk : k < n) : ∃ p, A = some p ∧ p.block < B ∧ w.cell? (p.add (k * 3)) = some (.string (F.getD k default).name) ∧
    w.cell? ⟨(p.add (k * 3)).block, (p.add (k * 3)).off + 1, none⟩ = some (.string (bst (F.getD k default).b)) ∧
    w.cell? ⟨(p.add (k * 3)).block, (p.add (k * 3)).off + 2, none⟩ = some (.int .i64 ((F.getD k default).kept : Int)) := by
  obtain ⟨p, e, hb, h0, hj⟩ := Ths.at_ (m := 3) (fun _ => rfl) (by omega) h hk
  exact ⟨p, e, hb, h0 _ rfl, hj 1 _ (by omega) (by omega) rfl, hj 2 _ (by omega) (by omega) rfl⟩
theorem row_anyF {base s n : Nat} {e : TypeId} {v : Value} {xs : List Value} (h : w.ownsRow base e s v n xs) : ∃ A c, v = .slice A n c ∧ n ≤ c ∧ c ≤ maxLen := by
  rcases h.2 with ⟨rfl, rfl⟩ | ⟨b, cap, cur, rfl, _, _, hnc, hm, _⟩
  · exact ⟨none, 0, rfl, Nat.le_refl _, Nat.zero_le _⟩
  · exact ⟨_, cap, rfl, hnc, hm⟩
theorem Ths.of_row {α : Type} {f : α → List Value} {L : List α} {base s : Nat} {T : TypeId} {v : Value} (h : w.ownsRow base T s v n (L.flatMap f)) (hn : L.length = n) : ∃ A c, v = .slice A n c ∧ n ≤ c ∧ c ≤ maxLen ∧ Ths f w w.heap.size A n L := by
  have h0 := h
  rcases h.2 with ⟨rfl, hz⟩ | ⟨b, cap, cur, rfl, hb, hh, hnc, hm, _⟩
  · subst hz
    have : L = [] := List.length_eq_zero_iff.1 hn
    subst this
    exact ⟨none, 0, rfl, Nat.le_refl _, Nat.zero_le _, rfl, Lies.empty⟩
  · refine ⟨_, cap, rfl, hnc, hm, hn, ⟨fun j u hj => ?_⟩⟩
    exact ⟨_, rfl, (Array.getElem?_eq_some_iff.1 hh).1, h0.cells (g := b) rfl j u hj⟩
theorem new_cellsF (w : World) (cs : List Value) (e : TypeId) : ∀ j u, cs[j]? = some u → (w.alloc (.cells cs.toArray e)).cell? ((⟨w.heap.size, 0, none⟩ : Addr).add j) = some u := fun j u hj => by
  obtain ⟨q, hq, _, hc⟩ := (Lies.of_new w cs.toArray e).get j u (by simpa using hj)
  injection hq with hq
  subst hq
  exact hc
theorem row_belowF {base s n : Nat} {e : TypeId} {v : Value} {xs : List Value} (h : w.ownsRow base e s v n xs) (hb : Below w.heap.size w w') : w'.ownsRow base e s v n xs :=
  row_same h fun g hg => hb.block g (World.ownsRow.lt h g hg).2
theorem row_baseF {base base' s n : Nat} {e : TypeId} {v : Value} {xs : List Value} (h : w.ownsRow base e s v n xs) (hb : base' ≤ base) : w.ownsRow base' e s v n xs := by
  refine ⟨h.1, ?_⟩
  rcases h.2 with h2 | ⟨b, cap, cur, hv, hb', r⟩
  · exact .inl h2
  · exact .inr ⟨b, cap, cur, hv, Nat.le_trans hb hb', r⟩
theorem row_setF {base s n g i : Nat} {e : TypeId} {v u : Value} {xs : List Value} (h : w.ownsRow base e s v n xs) (hg : v.ownBlock ≠ some g) : (w.setCell ⟨g, i, none⟩ u).ownsRow base e s v n xs :=
  row_same h fun k hk => Below.heap_setCell w ⟨g, i, none⟩ u k (fun e => hg (by have h9 : k = g := e; rw [← h9]; exact hk))
end
/-- how many changes are left, as the document has it -/
def PD.lf (p : PD) : Int := if p.set = true then p.left else -1
/-- what a disk's data may be -/
structure PD.Ok (p : PD) : Prop where
  rise : RiseT Fl.key p.F
  kept : ∀ f ∈ p.F, f.kept ≤ f.b.length
  name : ∀ f ∈ p.F, f.name.size ≤ 24
  r1 : 0 ≤ p.room
  r2 : p.room ≤ 4194304
  l1 : 0 ≤ p.left
  l2 : p.left ≤ 9223372036854775807
  len : p.F.length ≤ 128
  tot : sumL p.F ≤ 4194304
theorem Dk.ok {w : World} {base d : Nat} {D : Dsk} (h : Dk w base d D) : (pd D).Ok := by
  have hm : ∀ f ∈ (pd D).F, ∃ x ∈ D.H, x.f = f := fun f hf => List.mem_map.1 hf
  refine ⟨?_, fun f hf => ?_, fun f hf => ?_, h.r1, h.r2, h.l1, h.l2, ?_, ?_⟩
  · have := h.rise
    show RiseT Fl.key (filesD D)
    unfold RiseT filesD at *
    rw [List.pairwise_map]
    exact this
  · obtain ⟨x, hx, rfl⟩ := hm f hf
    exact (h.fl x hx).kept
  · obtain ⟨x, hx, rfl⟩ := hm f hf
    exact (h.fl x hx).name
  · have := h.len
    show (filesD D).length ≤ _
    unfold filesD
    rw [List.length_map]
    exact this
  · show sumL (filesD D) ≤ _
    rw [sumL_files]
    exact h.tot
theorem len_le_sum {F : List Fl} {f : Fl} (h : f ∈ F) : f.b.length ≤ sumL F := by
  unfold sumL
  induction F with
  | nil => cases h
  | cons y l ih =>
    rw [List.map_cons, List.sum_cons]
    rcases List.mem_cons.1 h with rfl | h
    · omega
    · have := ih h; omega
theorem mem_getD {F : List Fl} {k : Nat} (hk : k < F.length) : F.getD k default ∈ F := by
  rw [List.getD_eq_getElem?_getD, List.getElem?_eq_getElem hk]
  exact List.getElem_mem _
/-- the document's disk in memory -/
structure Rk (w : World) (base r : Nat) (v : Value) (p : PD) : Prop where
  br : base ≤ r
  blk : w.heap[r]? = some (.cells #[.int .i64 p.room, v, .int .i64 p.lf, .bool p.burnt] 78 (0, 0))
  row : w.ownsRow base 84 3 v p.F.length (fcs p.F)
def rfoot (r : Nat) (v : Value) : List Nat := r :: v.ownBlock.toList
section
variable {w w' w'' : World} {base r : Nat} {v v' v'' : Value} {p p' : PD}
theorem Rk.far (h : Rk w base r v p) : v.ownBlock ≠ some r := fun e => by
  obtain ⟨cur, hc⟩ := row_has h.row e
  rw [h.blk] at hc
  injection hc with hc
  injection hc with _ hc
  exact absurd hc (by decide)
theorem Rk.rlt (h : Rk w base r v p) : r < w.heap.size := (Array.getElem?_eq_some_iff.1 h.blk).1
theorem Rk.lt (h : Rk w base r v p) : ∀ k ∈ rfoot r v, k < w.heap.size := fun k hk => by
  unfold rfoot at hk
  rcases List.mem_cons.1 hk with rfl | hk
  · exact h.rlt
  · exact (World.ownsRow.lt h.row k (Option.mem_toList.1 hk)).2
theorem Rk.le (h : Rk w base r v p) : ∀ k ∈ rfoot r v, base ≤ k := fun k hk => by
  unfold rfoot at hk
  rcases List.mem_cons.1 hk with rfl | hk
  · exact h.br
  · exact (World.ownsRow.lt h.row k (Option.mem_toList.1 hk)).1
theorem Rk.keep (h : Rk w base r v p) (hk : ∀ k ∈ rfoot r v, w'.heap[k]? = w.heap[k]?) : Rk w' base r v p :=
  ⟨h.br, (hk r (List.mem_cons_self ..)).trans h.blk, row_same h.row fun g hg => hk g (List.mem_cons_of_mem _ (Option.mem_toList.2 hg))⟩
theorem Rk.below {B : Nat} (h : Rk w base r v p) (hb : Below B w w') (hB : w.heap.size ≤ B) : Rk w' base r v p := h.keep fun k hk => hb.block k (Nat.lt_of_lt_of_le (h.lt k hk) hB)
/-- what a call of the document's disk leaves -/
structure RT (base r : Nat) (w w' : World) (v v' : Value) (p' : PD) : Prop where
  rk : Rk w' base r v' p'
  tu : Turn (rfoot r v) w w'
  ft : ∀ k, v'.ownBlock = some k → v.ownBlock = some k ∨ w.heap.size ≤ k
theorem RT.of_below (h : Rk w base r v p) (hb : Below w.heap.size w w') : RT base r w w' v v p := ⟨h.below hb (Nat.le_refl _), Turn.of_below hb, fun k e => .inl e⟩
theorem RT.refl (h : Rk w base r v p) : RT base r w w v v p := RT.of_below h (Below.refl _ _)
theorem RT.trans (h : RT base r w w' v v' p) (h' : RT base r w' w'' v' v'' p') : RT base r w w'' v v'' p' :=
  ⟨h'.rk, h.tu.trans h'.tu (fun k hk => by
    unfold rfoot at hk ⊢
    rcases List.mem_cons.1 hk with rfl | hk
    · exact .inl (List.mem_cons_self ..)
    · exact (h.ft k (Option.mem_toList.1 hk)).imp (fun e => List.mem_cons_of_mem _ (Option.mem_toList.2 e)) id), fun k e => (h'.ft k e).elim (h.ft k) (fun h2 => .inr (Nat.le_trans h.tu.size h2))⟩
theorem RT.below_ (h : RT base r w w' v v' p) (hb : Below w'.heap.size w' w'') : RT base r w w'' v v' p := h.trans (RT.of_below h.rk hb)
theorem RT.foot (h : RT base r w w' v v' p) : ∀ k ∈ rfoot r v', k ∈ rfoot r v ∨ w.heap.size ≤ k := fun k hk => by
  unfold rfoot at hk ⊢
  rcases List.mem_cons.1 hk with rfl | hk
  · exact .inl (List.mem_cons_self ..)
  · exact (h.ft k (Option.mem_toList.1 hk)).imp (fun e => List.mem_cons_of_mem _ (Option.mem_toList.2 e)) id
theorem Rk.c0 (h : Rk w base r v p) : w.cell? ⟨r, 0, none⟩ = some (.int .i64 p.room) := cell_of_row w r 0 _ _ _ h.blk
theorem Rk.c1 (h : Rk w base r v p) : w.cell? ⟨r, 1, none⟩ = some v := cell_of_row w r 1 _ _ _ h.blk
theorem Rk.c2 (h : Rk w base r v p) : w.cell? ⟨r, 2, none⟩ = some (.int .i64 p.lf) := cell_of_row w r 2 _ _ _ h.blk
theorem Rk.c3 (h : Rk w base r v p) : w.cell? ⟨r, 3, none⟩ = some (.bool p.burnt) := cell_of_row w r 3 _ _ _ h.blk
theorem Rk.free (h : Rk w base r v p) (i : Nat) : w.frozen? ⟨r, i, none⟩ = false := frozen_of_row w r i _ _ h.blk
/-- the disk's own block is written, all its cells at once said -/
theorem Rk.own (h : Rk w base r v p) (hb : w'.heap[r]? = some (.cells #[.int .i64 p'.room, v, .int .i64 p'.lf, .bool p'.burnt] 78 (0, 0))) (hF : p'.F = p.F) (hos : w'.os = w.os) (ht : w'.tape = w.tape) (ho : w'.output = w.output) (hs : w.heap.size ≤ w'.heap.size) (hk : ∀ k, k < w.heap.size → k ≠ r → w'.heap[k]? = w.heap[k]?) : RT base r w w' v v p' :=
  ⟨⟨h.br, hb, by rw [hF]; exact row_same h.row fun g hg => hk g (World.ownsRow.lt h.row g hg).2 (fun e => h.far (by rw [← e]; exact hg))⟩, ⟨hos, ht, ho, hs, fun k h1 h2 => hk k h1 (fun e => h2 (by rw [e]; exact List.mem_cons_self ..))⟩, fun k e => .inl e⟩
/-- other files lie in new memory -/
theorem Rk.files (h : Rk w base r v p) (hb : Below w.heap.size w w') (hB : base ≤ w.heap.size) {F : List Fl} (ho : w'.ownsRow w.heap.size 84 3 v' F.length (fcs F)) : RT base r w (w'.setCell ⟨r, 1, none⟩ v') v v' { p with F := F } := by
  have hbx := (hb.block r h.rlt).trans h.blk
  have hf : v'.ownBlock ≠ some r := fun e => by have := (World.ownsRow.lt ho _ e).1; have := h.rlt; omega
  refine ⟨⟨h.br, by rw [heap_setCell_same w' r 1 _ _ _ hbx]; rfl, row_setF (row_baseF ho hB) hf⟩, ⟨by rw [World.setCell]; exact hb.os, by rw [World.setCell]; exact hb.tape, by rw [World.setCell]; exact hb.output, by simp; exact hb.size, fun k h1 h2 => ?_⟩, fun k e => .inr (World.ownsRow.lt ho k e).1⟩
  exact (Below.heap_setCell w' ⟨r, 1, none⟩ v' k (fun e => h2 (by have h9 : k = r := e; rw [h9]; exact List.mem_cons_self ..))).trans (hb.block k h1)
end
def newP (room : Int) : PD := ⟨[], room, false, 0⟩
set_option maxHeartbeats 1000000 in
theorem rnew_any (n : Int) (w : World) : Calls Try.prog 16 #[.int .i64 n] w fun e w' => ∃ r, e = .returned (.pointer (some ⟨r, 0, none⟩)) ∧ Rk w' w.heap.size r (.slice none 0 0) (newP n) ∧ Below w.heap.size w w' := by
  have HR : Hid (Rk (w.alloc (.cells #[.int .i64 n, .slice none 0 0, .int .i64 (-1), .bool false] 78)) w.heap.size w.heap.size (.slice none 0 0) (newP n)) := ⟨Nat.le_refl _, heap_alloc_new w _, World.ownsRow_nil _ _ _ _⟩
  have HB := Lib.hid ((Below.refl w.heap.size w).alloc (Nat.le_refl _) (.cells #[.int .i64 n, .slice none 0 0, .int .i64 (-1), .bool false] 78))
  go_enter Try.func16, Try.ntmps16
  go_wp2_with fail
  go_ret
  exact ⟨_, rfl, HR.out, HB.out⟩
set_option maxRecDepth 100000 in
set_option maxHeartbeats 4000000 in
theorem rused_any (base r : Nat) (v : Value) (p : PD) (w : World) (h : Rk w base r v p) (hp : p.Ok) :
    Calls Try.prog 50 #[.pointer (some ⟨r, 0, none⟩)] w fun e w' => e = .returned (.int .i64 (sumL p.F : Int)) ∧ Below w.heap.size w w' := by
  obtain ⟨A, c, rfl, _, _, hF⟩ := Ths.of_row h.row rfl
  have HF := Lib.hid hF
  have c1 := h.c1
  have hl := hp.len
  have HTK : Hid (∀ k, k < p.F.length → sumL (p.F.take (k + 1)) = sumL (p.F.take k) + (p.F.getD k default).b.length) := fun k hk => by
    rw [List.take_succ_eq_append_getElem hk, List.getD_eq_getElem?_getD, List.getElem?_eq_getElem hk]
    unfold sumL
    rw [List.map_append, List.sum_append]
    simp
  have HLE : Hid (∀ k, sumL (p.F.take k) ≤ 4194304) := fun k => Nat.le_trans (sum_take_le p.F k) hp.tot
  have HAL : Hid (∀ k, p.F.length ≤ k → sumL (p.F.take k) = sumL p.F) := fun k hk => by rw [List.take_of_length_le hk]
  have HBL : Hid (∀ k, k < p.F.length → (p.F.getD k default).b.length ≤ 4194304) := fun k hk => Nat.le_trans (len_le_sum (mem_getD hk)) hp.tot
  have h00 : sumL (p.F.take 0) = 0 := rfl
  generalize p.F = F at *
  generalize hn : F.length = n at *
  clear h hp hF hn
  obtain ⟨S, hS⟩ : ∃ S : Nat → Nat, ∀ k, S k = sumL (F.take k) := ⟨_, fun _ => rfl⟩
  simp only [← hS] at HTK HLE HAL h00
  clear hS
  go_enter Try.func50, Try.ntmps50
  go_wp2_with fail
  go_loopw [3, 11] (fun sv iv wr => ∃ k : Nat, k ≤ n ∧ iv = .int .i64 k ∧ sv = .int .i64 (S k : Int) ∧ Hid (Below w.heap.size w wr)) (fun _ iv _ => n - (RowKit.intOf iv).toNat)
  case atStart => exact ⟨0, by omega, rfl, by rw [h00]; rfl, Below.refl _ _⟩
  case round =>
    obtain ⟨k, hk, rfl, rfl, HB⟩ := hrel
    by_cases hlt : k < n
    · have hkz : (k : Int) < (n : Int) := by omega
      obtain ⟨q, rfl, hq, s0, s1, s2⟩ := Fs.row (HF.out.below HB.out) hlt
      have hst := HTK.out k hlt
      have hle := HLE.out (k + 1)
      have hbl := HBL.out k hlt
      generalize F.getD k default = f at *
      obtain ⟨fn, fb, fk⟩ := f
      simp only at s0 s1 s2 hst hbl
      obtain ⟨sb, hsb⟩ : ∃ x, bst fb = x := ⟨_, rfl⟩
      have hsz : sb.size = fb.length := by rw [← hsb]; exact bst_size _
      rw [hsb] at s1
      rw [← hsz] at hst hbl
      clear hsb hsz
      obtain ⟨a1, ha1⟩ : ∃ x, S (k + 1) = x := ⟨_, rfl⟩
      obtain ⟨a0, ha0⟩ : ∃ x, S k = x := ⟨_, rfl⟩
      rw [ha1] at hst hle
      rw [ha0] at hst ⊢
      have HA1 := Lib.hid ha1
      clear ha1 ha0
      have e9 : IntKind.i64.wrap ((a0 : Int) + (sb.size : Int)) = (a1 : Int) := by rw [IntKind.wrap_i64]; omega
      have HE10 : Hid ((a0 : Int) + (sb.size : Int) = (a1 : Int)) := by show _ = _; omega
      have HB2 := Lib.hid (HB.out.alloc HB.out.size (.cells #[.string fn, .string sb, .int .i64 (fk : Int)] 84))
      go_wp2_with fail
      go_roundw
      case rel => exact ⟨k + 1, by omega, by go_num, by rw [HA1.out, HE10.out], HB2⟩
      case measure => simp [RowKit.intOf]; omega
    · have d8 : decide ((k : Int) < (n : Int)) = false := by rw [decide_eq_false_iff_not]; omega
      have ea := HAL.out k (by omega)
      obtain ⟨ak, hak⟩ : ∃ x, S k = x := ⟨_, rfl⟩
      rw [hak] at ea ⊢
      subst ea
      clear hak
      go_wp2_with fail
      go_ret
      exact ⟨rfl, HB.out⟩
end Go.Proofs.Ytebkgcnldbkgeaa
