/-
  What Crash does.
-/
import Derived.Test.YtebkgcnldbkgeaaDkN
import Derived.Test.YtebkgcnldbkgeaaDkL
namespace Go.Proofs.Ytebkgcnldbkgeaa
open Go.RowKit Go.Lib Go.Sort Go.Maps
set_option linter.unusedVariables false
set_option linter.unusedSimpArgs false

/-- a slice of numbers -/
structure Isd (w : World) (B : Nat) (A : Option Addr) (n : Nat) (L : List Int) : Prop where
  len : L.length = n
  row : ∀ k, k < n → ∃ p, A = some p ∧ p.block < B ∧ w.cell? (p.add k) = some (.int .i64 (L.getD k 0)) ∧ -9223372036854775808 ≤ L.getD k 0 ∧ L.getD k 0 ≤ 9223372036854775807
theorem Isd.below {w w' : World} {B n : Nat} {A : Option Addr} {L : List Int} (h : Isd w B A n L) (hb : Below B w w') : Isd w' B A n L :=
  ⟨h.len, fun k hk => by
    obtain ⟨p, e, h1, h2, h3⟩ := h.row k hk
    exact ⟨p, e, h1, (hb.cell (by rw [add_block]; exact h1)).trans h2, h3⟩⟩
def pickAt (P : List Int) (i : Nat) : Int := if P.length = 0 then 0 else P.getD (i % P.length) 0
def crash1 (P : List Int) (i : Nat) (f : Fl) : Fl := ⟨f.name, f.b.take (lastN4 f.kept f.b.length (pickAt P i)), lastN4 f.kept f.b.length (pickAt P i)⟩
/-- the files behind a crash, the first n of them -/
def crashF (P : List Int) (F : List Fl) : Nat → List Fl
  | 0 => []
  | n + 1 => crashF P F n ++ [crash1 P n (F.getD n ⟨⟨#[]⟩, [], 0⟩)]
theorem insT_end {α : Type} (kf : α → List UInt8) (r : α) (L : List α) (h : ∀ x ∈ L, ltT (kf x) (kf r)) : insT kf r L = L ++ [r] := by
  induction L with
  | nil => rfl
  | cons y l ih =>
    unfold insT
    rw [if_neg, ih fun x hx => h x (by simp [hx])]
    · rfl
    · intro h2
      exact ltT_irr _ (WideShapes.bytes_trans _ _ _ (h y (by simp)) h2)
section
variable {w w' : World} {base d : Nat} {D : Dsk}
theorem Dk.rise (h : Dk w base d D) : RiseT Hd.key D.H := by
  cases hm : D.mp with
  | none => rw [h.mp0 hm]; exact List.Pairwise.nil
  | some m => exact (h.mp1 m hm).2.rise
/-- a file is given other bytes, all of them kept -/
theorem filled (h : Dk w base d D) {f : Hd} (hf : f ∈ D.H) {A : Option Addr} {c : Nat} {x : List UInt8} (hrow : w.ownsRow base 5 1 (.slice A x.length c) x.length (bvs x)) (hnot : ∀ g, (Value.slice A x.length c).ownBlock = some g → g ∉ D.foot d) (htot : usedH D.H + x.length ≤ 4194304 + f.b.length) :
    ∃ D', Dk ((w.setCell ⟨f.fb, 0, none⟩ (.slice A x.length c)).setCell ⟨f.fb, 1, none⟩ (.int .i64 (x.length : Int))) base d D' ∧ filesD D' = (filesD D).map (fun g => if g.name = f.name then ⟨g.name, x, x.length⟩ else g) ∧ SameD D D' ∧ D'.mp = D.mp ∧ D'.H.length = D.H.length ∧ ∀ k ∈ D'.foot d, k ∈ D.foot d ∨ (Value.slice A x.length c).ownBlock = some k := by
  have hfl := h.fl f hf
  have hu : ∀ y ∈ D.H, y.fb = f.fb → y = f := fun y hy e => h.fb_inj hy hf e
  have hb1 : (w.setCell ⟨f.fb, 0, none⟩ (.slice A x.length c)).heap[f.fb]? = some (.cells #[.slice A x.length c, .int .i64 (f.kept : Int)] 64 (0, 0)) := by rw [heap_setCell_same w _ 0 _ _ _ hfl.blk]; rfl
  have hb2 : ((w.setCell ⟨f.fb, 0, none⟩ (.slice A x.length c)).setCell ⟨f.fb, 1, none⟩ (.int .i64 (x.length : Int))).heap[f.fb]? = some (.cells #[.slice A x.length c, .int .i64 (x.length : Int)] 64 (0, 0)) := by rw [heap_setCell_same _ _ 1 _ _ _ hb1]; rfl
  have hk0 : ∀ k, k ≠ f.fb → ((w.setCell ⟨f.fb, 0, none⟩ (.slice A x.length c)).setCell ⟨f.fb, 1, none⟩ (.int .i64 (x.length : Int))).heap[k]? = w.heap[k]? := fun k hk => (Below.heap_setCell _ _ _ k (fun e => hk e)).trans (Below.heap_setCell w _ _ k (fun e => hk e))
  have hnew : FileAt ((w.setCell ⟨f.fb, 0, none⟩ (.slice A x.length c)).setCell ⟨f.fb, 1, none⟩ (.int .i64 (x.length : Int))) base { f with v := .slice A x.length c, b := x, kept := x.length } :=
    ⟨hfl.bf, hb2, row_same hrow fun g hg => hk0 g (fun e => hnot g hg (by rw [e]; exact foot_fl hf (by simp [Hd.foot]))), Nat.le_refl _, hfl.name⟩
  have hvb : ({ f with v := .slice A x.length c, b := x, kept := x.length } : Hd).v.ownBlock = none ∨ ({ f with v := .slice A x.length c, b := x, kept := x.length } : Hd).v.ownBlock = f.v.ownBlock ∨ ∃ g, ({ f with v := .slice A x.length c, b := x, kept := x.length } : Hd).v.ownBlock = some g ∧ g ∉ D.foot d := by
    cases ho : (Value.slice A x.length c).ownBlock with
    | none => exact .inl rfl
    | some g => exact .inr (.inr ⟨g, rfl, hnot g ho⟩)
  have hdk := h.upd (f' := { f with v := .slice A x.length c, b := x, kept := x.length }) hf rfl rfl hnew hvb (fun k _ h1 _ => hk0 k h1) htot
  refine ⟨_, hdk, ?_, ⟨rfl, rfl, rfl⟩, rfl, by show (List.map _ D.H).length = _; rw [List.length_map], upd_foot2 (f' := { f with v := .slice A x.length c, b := x, kept := x.length }) hf rfl⟩
  show (D.H.map _).map Hd.f = (D.H.map Hd.f).map _
  rw [List.map_map, List.map_map]
  refine List.map_congr_left fun y hy => ?_
  simp only [Function.comp, repl]
  by_cases e : y.fb = f.fb
  · have := hu y hy e
    subst this
    rw [if_pos rfl, if_pos (show y.f.name = y.name from rfl)]
    rfl
  · rw [if_neg e, if_neg]
    intro e2
    have e3 : y.key = f.key := by unfold Hd.key; rw [show y.name = f.name from e2]
    exact e (by rw [rise_inj Hd.key h.rise hy hf e3])
theorem names_all : namesD D ⟨#[]⟩ = D.H.map Hd.key := by
  unfold namesD
  rw [List.filter_eq_self]
  intro k _
  simp [Lib.hasPrefix]
theorem crashF_names (P : List Int) (F : List Fl) : ∀ n, n ≤ F.length → (crashF P F n).map Fl.key = (F.take n).map Fl.key
  | 0, _ => rfl
  | n + 1, h => by
    show (crashF P F n ++ _).map Fl.key = _
    rw [List.map_append, crashF_names P F n (by omega), List.take_succ_eq_append_getElem (by omega), List.map_append, List.getD_eq_getElem?_getD, List.getElem?_eq_getElem (by omega)]
    rfl
theorem crash_lt {P : List Int} {Dc : Dsk} {k : Nat} {f : Hd} (hr : RiseT Hd.key D.H) (hk : D.H[k]? = some f) (hF : filesD Dc = crashF P (filesD D) k) : ∀ g ∈ filesD Dc, ltT g.key f.key := by
  intro g hg
  have hkl : k < D.H.length := (List.getElem?_eq_some_iff.1 hk).1
  have h1 : g.key ∈ (filesD Dc).map Fl.key := List.mem_map.2 ⟨g, hg, rfl⟩
  rw [hF, crashF_names P (filesD D) k (by unfold filesD; rw [List.length_map]; omega)] at h1
  obtain ⟨y, hy, e⟩ := List.mem_map.1 h1
  rw [← e]
  unfold filesD at hy
  rw [← List.map_take] at hy
  obtain ⟨z, hz, rfl⟩ := List.mem_map.1 hy
  obtain ⟨i, hi, rfl⟩ := List.mem_iff_getElem.1 hz
  rw [List.getElem_take]
  rw [List.length_take] at hi
  have := (List.pairwise_iff_getElem.1 hr) i k (by omega) hkl (by omega)
  rw [(List.getElem?_eq_some_iff.1 hk).2] at this
  exact this
def sumL (F : List Fl) : Nat := (F.map fun f => f.b.length).sum
theorem sumL_files : sumL (filesD D) = usedH D.H := by
  unfold sumL filesD usedH
  rw [List.map_map]
  rfl
theorem crash_sum (P : List Int) (F : List Fl) : ∀ n, n ≤ F.length → sumL (crashF P F n) ≤ sumL (F.take n)
  | 0, _ => Nat.zero_le _
  | n + 1, h => by
    have ih := crash_sum P F n (by omega)
    unfold sumL at ih ⊢
    show ((crashF P F n ++ _).map _).sum ≤ _
    rw [List.map_append, List.sum_append, List.take_succ_eq_append_getElem (by omega), List.map_append, List.sum_append, List.getD_eq_getElem?_getD, List.getElem?_eq_getElem (by omega)]
    simp only [Option.getD_some, List.map_cons, List.map_nil, List.sum_cons, List.sum_nil, crash1, List.length_take]
    omega
theorem sum_take_le (F : List Fl) (n : Nat) : sumL (F.take n) ≤ sumL F := by
  conv => rhs; rw [← List.take_append_drop n F]
  unfold sumL
  rw [List.map_append, List.sum_append]
  omega
theorem crash_tot {P : List Int} {Dc : Dsk} {k : Nat} {f : Hd} {n : Nat} (hk : D.H[k]? = some f) (hF : filesD Dc = crashF P (filesD D) k) : usedH Dc.H + (f.b.take n).length ≤ usedH D.H := by
  have hkl : k < D.H.length := (List.getElem?_eq_some_iff.1 hk).1
  have hfl : k < (filesD D).length := by unfold filesD; rw [List.length_map]; omega
  have e0 : (filesD D)[k]? = some f.f := by unfold filesD; rw [List.getElem?_map, hk]; rfl
  have e := (List.getElem?_eq_some_iff.1 e0).2
  have h1 := crash_sum P (filesD D) k (by omega)
  have h2 := sum_take_le (filesD D) (k + 1)
  rw [← hF, sumL_files] at h1
  rw [sumL_files, List.take_succ_eq_append_getElem hfl, e] at h2
  unfold sumL at h1 h2
  rw [List.map_append, List.sum_append] at h2
  simp only [List.map_cons, List.map_nil, List.sum_cons, List.sum_nil] at h2
  have h3 : f.f.b.length = f.b.length := rfl
  rw [List.length_take]
  omega
theorem crash_step {w1 wc w5 w6 : World} {b fb m k : Nat} {D0 Dc : Dsk} {A : Option Addr} {c : Nat} {x : List UInt8} {P : List Int} {F : List Fl} {f : Fl}
    (hT : Then b d w1 wc D0 Dc) (hb5 : Below wc.heap.size wc w5) (ho : w5.ownsRow wc.heap.size 5 1 (.slice A x.length c) x.length (bvs x)) (hbb : b ≤ wc.heap.size) (hfb : w5.heap.size ≤ fb)
    (h6 : Dk w6 b d { Dc with mp := some m, H := insT Hd.key ⟨f.name, fb, .slice none 0 0, [], 0⟩ Dc.H }) (ht6 : Turn (Dc.foot d) w5 w6) (hm : Dc.mp = some m ∨ w5.heap.size ≤ m)
    (hF : filesD Dc = crashF P F k) (hS : SameD D0 Dc) (hf : F[k]? = some f) (hx : f.b.take (lastN4 f.kept f.b.length (pickAt P k)) = x) (hkl : f.kept ≤ f.b.length) (hlt : ∀ g ∈ filesD Dc, ltT g.key f.key) (htot : usedH Dc.H + x.length ≤ 4194304) :
    ∃ D', Then b d w1 ((w6.setCell ⟨fb, 0, none⟩ (.slice A x.length c)).setCell ⟨fb, 1, none⟩ (.int .i64 (x.length : Int))) D0 D' ∧ filesD D' = crashF P F (k + 1) ∧ SameD D0 D' := by
  have hs5 := hb5.size
  have hown := ho.lt
  have ho5 : w5.ownsRow b 5 1 (.slice A x.length c) x.length (bvs x) := by
    refine ⟨ho.1, ?_⟩
    rcases ho.2 with h | ⟨b2, cap, cur2, e, hb2, h⟩
    · exact .inl h
    · exact .inr ⟨b2, cap, cur2, e, Nat.le_trans hbb hb2, h⟩
  have hft := ins_foot (D := Dc) (d := d) (f := ⟨f.name, fb, .slice none 0 0, [], 0⟩) (n := w5.heap.size) hm hfb (.inl rfl)
  have hlc : ∀ g ∈ Dc.foot d, g < wc.heap.size := fun g hg => hT.dk.lt g hg
  have hr6 := row_same ho5 (w' := w6) fun g hg => ht6.block g (hown g hg).2 (fun h2 => by have := hlc g h2; have := (hown g hg).1; omega)
  have hin : (⟨f.name, fb, .slice none 0 0, [], 0⟩ : Hd) ∈ ({ Dc with mp := some m, H := insT Hd.key ⟨f.name, fb, .slice none 0 0, [], 0⟩ Dc.H } : Dsk).H := (insT_mem _ _ _ _).2 (.inl rfl)
  have hu6 : usedH ({ Dc with mp := some m, H := insT Hd.key ⟨f.name, fb, .slice none 0 0, [], 0⟩ Dc.H } : Dsk).H = usedH Dc.H := by
    unfold usedH
    have := ((insT_perm Hd.key ⟨f.name, fb, .slice none 0 0, [], 0⟩ Dc.H).map fun h => h.b.length).sum_nat
    show ((insT _ _ _).map _).sum = _
    rw [this]
    simp
  obtain ⟨D', hd', hfi, hsd, _, _, hfo⟩ := filled h6 hin hr6 (fun g hg h2 => by
    have := hown g hg
    rcases hft g h2 with h3 | h3
    · have := hlc g h3; omega
    · omega) (by rw [hu6]; show _ ≤ 4194304 + 0; omega)
  refine ⟨D', hT.trans ⟨hd', ?_, fun g hg => ?_⟩, ?_, ⟨hsd.room.trans hS.room, hsd.set.trans hS.set, hsd.left.trans hS.left⟩⟩
  · refine ((Turn.of_below (F := Dc.foot d) hb5).trans ht6 fun _ h => .inl h).trans (F' := [fb]) ((Turn.of_grown (grown_setD _ fb 0 _) (by simp)).trans (Turn.of_grown (F := [fb]) (grown_setD _ fb 1 _) (by simp)) fun _ h => .inl h) fun g hg => ?_
    have : g = fb := by simpa using hg
    exact .inr (by omega)
  · rcases hfo g hg with h2 | h2
    · exact (hft g h2).imp_right fun h3 => by omega
    · exact .inr (hown g h2).1
  · rw [hfi]
    have e1 : filesD ({ Dc with mp := some m, H := insT Hd.key ⟨f.name, fb, .slice none 0 0, [], 0⟩ Dc.H } : Dsk) = filesD Dc ++ [⟨f.name, [], 0⟩] := by
      unfold filesD
      show (insT _ _ _).map Hd.f = _
      rw [ins_files]
      exact insT_end Fl.key ⟨f.name, [], 0⟩ _ hlt
    rw [e1, List.map_append]
    show _ = crashF P F k ++ [crash1 P k (F.getD k _)]
    rw [← hF, List.getD_eq_getElem?_getD, hf]
    have e2 : (filesD Dc).map (fun g => if g.name = f.name then (⟨g.name, x, x.length⟩ : Fl) else g) = filesD Dc := by
      conv => rhs; rw [← List.map_id (filesD Dc)]
      refine List.map_congr_left fun g hg => ?_
      rw [if_neg]
      · rfl
      · intro e
        have h3 := hlt g hg
        unfold Fl.key at h3
        rw [e] at h3
        exact ltT_irr _ h3
    have e3 : x.length = lastN4 f.kept f.b.length (pickAt P k) := by
      have := (lastN4_le hkl (pickAt P k)).2
      rw [← hx, List.length_take]
      omega
    refine congr (congrArg _ e2) ?_
    simp only [List.map_cons, List.map_nil, Option.getD_some, if_true]
    unfold crash1
    rw [hx, ← e3]
theorem not_disk {p : Addr} {a e : Value} {b c : Value} {T : TypeId} {z : Nat × Nat} {s : ByteArray} (hb : w.heap[d]? = some (.cells #[a, b, c, e] T z)) (hc : w.cell? p = some (.string s)) (ha : a ≠ .string s) (hb2 : b ≠ .string s) (hc2 : c ≠ .string s) (he : e ≠ .string s) : p.block ≠ d := by
  intro h
  unfold World.cell? at hc
  rw [h, hb] at hc
  rcases p with ⟨blk, off, spot⟩
  simp only at hc
  split at hc
  · cases hc
  · rcases off with _ | _ | _ | _ | n <;> simp at hc
    · exact ha hc
    · exact hb2 hc
    · exact hc2 hc
    · exact he hc
end
set_option maxRecDepth 100000 in
set_option maxHeartbeats 8000000 in
theorem crash_any (base d : Nat) (D : Dsk) (A : Option Addr) (n c : Nat) (P : List Int) (w : World) (h : Dk w base d D) (hP : Isd w w.heap.size A n P) (hn : n ≤ maxLen) :
    Calls Try.prog 9 #[.pointer (some ⟨d, 0, none⟩), .slice A n c] w fun e w' => ∃ (cb : Nat) (Dc : Dsk), e = .returned (.pointer (some ⟨cb, 0, none⟩)) ∧ Dk w' w.heap.size cb Dc ∧ filesD Dc = crashF P (filesD D) (filesD D).length ∧ Dc.room = D.room ∧ Dc.set = false ∧ Dc.left = 0 ∧ Below w.heap.size w w' := by
  have HD := Lib.hid h
  have HP := Lib.hid hP
  have hpl := hP.len
  have c1 := h.c1
  have hdl := h.dlt
  have hr1 := h.r1
  have hr2 := h.r2
  unfold maxLen at hn
  have HCN : Hid (Dk (w.alloc (.cells #[.map none, .int .i64 D.room, .bool false, .int .i64 0] 59)) w.heap.size w.heap.size (newD D.room)) :=
    ⟨Nat.le_refl _, heap_alloc_new w _, fun _ => rfl, fun m hm => (by cases hm), fun h hh => (by cases hh), List.Pairwise.nil, hr1, hr2, (by unfold newD; simp), (by unfold newD; simp), (by unfold newD; simp), (by unfold newD usedH; simp)⟩
  have hal := (Below.refl w.heap.size w).alloc (Nat.le_refl _) (.cells #[.map none, .int .i64 D.room, .bool false, .int .i64 0] 59)
  have HNA := Lib.hid (names_any base d D ⟨#[]⟩ _ (h.below hal (Nat.le_refl _)))
  rw [names_all] at HNA
  have HAL := Lib.hid hal
  clear h hP hal
  obtain ⟨N, hN⟩ : ∃ N, (D.H.map Hd.key).length = N := ⟨_, rfl⟩
  have HN : Hid (D.H.length = N) := by rw [List.length_map] at hN; exact hN
  rw [hN] at HNA
  clear hN
  generalize hrm : D.room = room at *
  have HRM := Lib.hid hrm
  clear hrm
  go_enter Try.func9, Try.ntmps9
  go_wp2_with (go_at_call 10; (with_reducible refine HNA.out.mono ?_); rintro e w1 ⟨A1, cc1, rfl, hn1, hn2, hli1, hb1⟩)
  have HLI := Lib.hid hli1
  have hz1 : w.heap.size + 1 ≤ w1.heap.size := by have := hb1.size; simp at this; omega
  have HC1 := Lib.hid (HCN.out.below hb1 (Nat.le_refl _))
  have HB1 := Lib.hid (HAL.out.trans (hb1.mono (by simp)))
  have HDO := Lib.hid (HD.out.below HB1.out (Nat.le_refl _))
  have HNL : Hid (N ≤ 128) := by rw [Hid, ← HN.out]; exact HD.out.len
  clear hli1 hb1 HCN HAL HNA c1
  have hN128 := HNL.out
  have hfn : ∀ g ∈ (newD room).foot w.heap.size, g = w.heap.size := fun g hg => by simpa [newD, Dsk.foot] using hg
  have HFN := Lib.hid hfn
  clear hfn
  go_loopw [22] (fun iv wr => ∃ k : Nat, k ≤ N ∧ iv = .int .i64 k ∧ ∃ Dc : Dsk, Hid (Then w.heap.size w.heap.size w1 wr (newD room) Dc ∧ filesD Dc = crashF P (filesD D) k ∧ SameD (newD room) Dc)) (fun iv _ => N - (RowKit.intOf iv).toNat)
  case atStart => exact ⟨0, by omega, rfl, newD room, Then.refl HC1.out, rfl, ⟨rfl, rfl, rfl⟩⟩
  case round =>
    obtain ⟨k, hk, rfl, Dc, HK⟩ := hrel
    have HBR : Hid (Below w.heap.size w wr) := HB1.out.trans (HK.out.1.tu.below (fun g hg => Nat.le_of_eq (HFN.out g hg).symm) (by omega))
    by_cases hlt : k < N
    · have hf0 : D.H.getD k ⟨⟨#[]⟩, 0, .slice none 0 0, [], 0⟩ ∈ D.H := by
        rw [List.getD_eq_getElem?_getD, List.getElem?_eq_getElem (by rw [HN.out]; exact hlt)]
        exact List.getElem_mem _
      obtain ⟨f, hfe⟩ : ∃ f, D.H.getD k ⟨⟨#[]⟩, 0, .slice none 0 0, [], 0⟩ = f := ⟨_, rfl⟩
      rw [hfe] at hf0
      have HFK : Hid (D.H[k]? = some f) := by
        rw [Hid, ← hfe, List.getD_eq_getElem?_getD, List.getElem?_eq_getElem (by rw [HN.out]; exact hlt)]
        rfl
      have HF0 := Lib.hid hf0
      clear hfe hf0
      have HDR := Lib.hid (HD.out.below HBR.out (Nat.le_refl _))
      obtain ⟨pn, hA1, hpnb, hcn⟩ := HLI.out.get k (encStr f.key) (by rw [List.getElem?_map, List.getElem?_map, HFK.out]; rfl)
      subst hA1
      have hen : encStr f.key = .string f.name := by unfold encStr Hd.key; rfl
      rw [hen] at hcn
      have hnd : (pn.add k).block ≠ w.heap.size := not_disk HC1.out.blk hcn (by simp) (by simp) (by simp) (by simp)
      have hcn := (World.cell?_of_block (a := pn.add k) (HK.out.1.block (by rw [add_block]; exact hpnb) fun h2 => hnd (HFN.out _ h2))).trans hcn
      clear hnd
      have hfl := HDR.out.fl f HF0.out
      have hnm := hfl.name
      have hkz : (k : Int) < (N : Int) := by omega
      have hat : D.at_ f.name = some f := getT_of_mem Hd.key HD.out.rise HF0.out
      have HFI := Lib.hid (file_any base d D f.name wr HDR.out (by unfold maxLen; omega))
      rw [hat] at HFI
      unfold ptrO Hd.ptr at HFI
      simp only at HFI
      have hfu := Nat.le_trans (used_mem HF0.out) HD.out.tot
      obtain ⟨pk, hpk⟩ : ∃ pk, pickAt P k = pk := ⟨_, rfl⟩
      have HPK := Lib.hid hpk
      have hpb : -9223372036854775808 ≤ pk ∧ pk ≤ 9223372036854775807 := by
        rw [← hpk]
        unfold pickAt
        split
        · omega
        · rename_i h0
          obtain ⟨_, _, _, _, h3, h4⟩ := HP.out.row (k % P.length) (by rw [← hpl]; exact Nat.mod_lt _ (by omega))
          exact ⟨h3, h4⟩
      have HAF := Lib.hid (after_any base f pk wr hfl hfu hpb.1 hpb.2)
      obtain ⟨x, hx⟩ : ∃ x, f.b.take (lastN4 f.kept f.b.length pk) = x := ⟨_, rfl⟩
      rw [hx] at HAF
      have HX : Hid (f.f.b.take (lastN4 f.f.kept f.f.b.length (pickAt P k)) = x) := by rw [hpk]; exact hx
      have HFF : Hid ((filesD D)[k]? = some f.f) := by unfold filesD; rw [Hid, List.getElem?_map, HFK.out]; rfl
      have HLT : Hid (∀ g ∈ filesD Dc, ltT g.key f.f.key) := crash_lt HD.out.rise HFK.out HK.out.2.1
      have HTOT : Hid (usedH Dc.H + x.length ≤ 4194304) := by rw [Hid, ← hx]; exact Nat.le_trans (crash_tot HFK.out HK.out.2.1) HD.out.tot
      have HNO : Hid (Dc.at_ f.name = none) := by
        have h1 := get_files Dc f.name.data.toList
        unfold Dsk.at_
        rw [Hid]
        cases h2 : getT Hd.key Dc.H f.name.data.toList with
        | none => rfl
        | some y =>
          have h3 := HLT.out y.f (List.mem_map.2 ⟨y, getT_mem _ h2, rfl⟩)
          have h4 := getT_key Hd.key h2
          exact absurd h3 (by rw [show y.f.key = f.f.key from h4]; exact ltT_irr _)
      have HDL : Hid (Dc.H.length < 128) := by
        have h1 : (filesD Dc).length = k := by
          have := congrArg List.length (crashF_names P (filesD D) k (by unfold filesD; rw [List.length_map, HN.out]; omega))
          rw [List.length_map, List.length_map, List.length_take, ← HK.out.2.1] at this
          rw [this]
          unfold filesD
          rw [List.length_map, HN.out]
          omega
        unfold filesD at h1
        rw [List.length_map] at h1
        show _ < 128
        omega
      have HKL : Hid (f.f.kept ≤ f.f.b.length) := hfl.kept
      clear hpk hat hfl hen hx
      go_upto_if 29 with fail
      go_cut [8] (fun s8 wx => s8 = .int .i64 pk ∧ wx = wr)
      case first =>
        by_cases h0 : n = 0
        · have e0 : pk = 0 := by
            rw [← HPK.out]
            unfold pickAt
            rw [if_pos (by rw [hpl, h0])]
          subst e0
          have d0 : decide (0 < n) = false := by rw [decide_eq_false_iff_not]; omega
          have d0' : decide ((0 : Int) < (n : Int)) = false := by rw [decide_eq_false_iff_not]; omega
          go_wp2_with fail
          go_meet
          exact ⟨rfl, rfl⟩
        · have d0 : decide (0 < n) = true := by rw [decide_eq_true_iff]; omega
          have d0' : decide ((0 : Int) < (n : Int)) = true := by rw [decide_eq_true_iff]; omega
          have hkn : k % n < n := Nat.mod_lt _ (by omega)
          obtain ⟨pp, hAA, hpp, hcp, _, _⟩ := HP.out.row (k % n) hkn
          subst hAA
          have e1 : P.getD (k % n) 0 = pk := by
            rw [← HPK.out]
            unfold pickAt
            rw [if_neg (by omega), hpl]
          rw [e1] at hcp
          have hcw : wr.cell? (pp.add (k % n)) = some (.int .i64 pk) := (HBR.out.cell (by rw [add_block]; exact hpp)).trans hcp
          have hrem : Int.tmod (k : Int) (n : Int) = ((k % n : Nat) : Int) := rfl
          have hn0 : ((n : Int) == 0) = false := by rw [beq_eq_false_iff_ne]; omega
          clear hcp e1
          go_wp2_with fail
          go_meet
          exact ⟨rfl, rfl⟩
      case rest =>
        obtain ⟨rfl, hwe⟩ := hcut
        have hwe' := hwe.symm
        subst hwe'
        go_wp2_with (first
          | (go_at_call 28; (with_reducible refine HFI.out.mono ?_); rintro e w4 ⟨rfl, hw4⟩; have hw4' := hw4.symm; subst hw4')
          | (go_at_call 29; (with_reducible refine HAF.out.mono ?_); rintro e w5 ⟨v, rfl, ho5, hb5⟩)
          | fail "create")
        obtain ⟨Av, cv, hve, _, _⟩ := slice_of_row ho5
        subst hve
        have HO5 := Lib.hid ho5
        have HB5 := Lib.hid hb5
        have HCR := Lib.hid (create_any w.heap.size w.heap.size Dc f.name w5 (HK.out.1.dk.below hb5 (Nat.le_refl _)) (Nat.le_trans HBR.out.size hb5.size) HNO.out hnm HDL.out)
        clear ho5 hb5
        go_at_call 30
        (with_reducible refine HCR.out.mono ?_)
        rintro e w6 ⟨fb, m, rfl, hfb, hd6, ht6, hm6⟩
        have hin : (⟨f.name, fb, .slice none 0 0, [], 0⟩ : Hd) ∈ ({ Dc with mp := some m, H := insT Hd.key ⟨f.name, fb, .slice none 0 0, [], 0⟩ Dc.H } : Dsk).H := (insT_mem _ _ _ _).2 (.inl rfl)
        have hbk6 := (hd6.fl _ hin).blk
        simp only at hbk6
        have HST := Lib.hid (crash_step (P := P) (x := x) HK.out.1 HB5.out HO5.out HBR.out.size hfb hd6 ht6 hm6 HK.out.2.1 HK.out.2.2 HFF.out HX.out HKL.out HLT.out HTOT.out)
        have hbk7 : (w6.setCell ⟨fb, 0, none⟩ (.slice Av x.length cv)).heap[fb]? = some (.cells #[.slice Av x.length cv, .int .i64 0] 64 (0, 0)) := by rw [heap_setCell_same w6 _ 0 _ _ _ hbk6]; rfl
        have e60 : w6.cell? ⟨fb, 0, none⟩ = some (.slice none 0 0) := cell_of_row _ _ 0 _ _ _ hbk6
        have f60 : w6.frozen? ⟨fb, 0, none⟩ = false := frozen_of_row _ _ 0 _ _ hbk6
        have e71 : (w6.setCell ⟨fb, 0, none⟩ (.slice Av x.length cv)).cell? ⟨fb, 1, none⟩ = some (.int .i64 0) := cell_of_row _ _ 1 _ _ _ hbk7
        have f71 : (w6.setCell ⟨fb, 0, none⟩ (.slice Av x.length cv)).frozen? ⟨fb, 1, none⟩ = false := frozen_of_row _ _ 1 _ _ hbk7
        clear hfb hd6 ht6 hm6 hin hbk6 hbk7
        obtain ⟨xl, hxl⟩ : ∃ n, x.length = n := ⟨_, rfl⟩
        rw [hxl] at HST e71 f71
        go_wp2_with fail
        go_roundw
        case rel =>
          obtain ⟨D', a1, a2, a3⟩ := HST.out
          exact ⟨k + 1, by omega, by go_num, D', a1, a2, a3⟩
        case measure => simp [RowKit.intOf]; omega
    · have d8 : decide ((k : Int) < (N : Int)) = false := by rw [decide_eq_false_iff_not]; omega
      have d9 : decide (k < N) = false := by rw [decide_eq_false_iff_not]; omega
      go_wp2_with fail
      go_ret
      have hkN : k = N := by omega
      subst hkN
      have hlF : (filesD D).length = k := by unfold filesD; rw [List.length_map, HN.out]
      refine ⟨w.heap.size, Dc, rfl, HK.out.1.dk, by rw [hlF]; exact HK.out.2.1, ?_, ?_, ?_, HBR.out⟩
      · exact HK.out.2.2.room
      · exact HK.out.2.2.set
      · exact HK.out.2.2.left
end Go.Proofs.Ytebkgcnldbkgeaa
