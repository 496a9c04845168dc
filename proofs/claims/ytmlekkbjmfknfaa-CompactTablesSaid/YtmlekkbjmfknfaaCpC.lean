/-
  Texts in order; what sort.Search and a table's find do.
-/
import Derived.Test.YtmlekkbjmfknfaaCpB
import Derived.Laws.Cover1
import Derived.Deep.LoopGhost
import Derived.Shelf.Abstract
import Derived.Lib.QuietBelow
import Derived.BigQuiet
import Derived.Deep.QuietTactic
namespace Go.Proofs.Ytmlekkbjmfknfaa
open Go.RowKit Go.Lib Go.Sort
set_option linter.unusedVariables false
set_option linter.unusedSimpArgs false

set_option maxRecDepth 100000 in
set_option maxHeartbeats 2000000 in
theorem search_any (g : Nat) (cb : Array Value) (n : Nat) (p : Nat → Bool) (w : World) (eg : ∀ args w, (callFunc g args).run Try.prog w = .ok (.enter g args) w) (hsz : n < 4611686018427387904)
    (hf : ∀ (W : World) (i : Nat), Below w.heap.size w W → i < n → Calls Try.prog g (#[.int .i64 i] ++ cb) W fun e w' => e = .returned (.bool (p i)) ∧ Below W.heap.size W w')
    (hmono : ∀ a b, a ≤ b → b < n → p a = true → p b = true) :
    Calls Try.prog 93 #[.int .i64 n, .func (.func g) #[] cb] w fun e w' => ∃ r : Nat, e = .returned (.int .i64 r) ∧ r ≤ n ∧ (∀ t, t < r → p t = false) ∧ (∀ t, r ≤ t → t < n → p t = true) ∧ Below w.heap.size w w' := by
  have HF := Lib.hid hf
  have M := Lib.hid hmono
  clear hf hmono
  go_enter Try.func93, Try.ntmps93
  go_wp2
  go_loopg [5, 6] n (fun kx s5 s6 wr => ∃ (lo hi : Nat), s5 = .int .i64 lo ∧ s6 = .int .i64 hi ∧ lo ≤ hi ∧ hi ≤ n ∧ hi - lo ≤ kx ∧ Hid (Below w.heap.size w wr) ∧
    Hid ((∀ t, t < lo → p t = false) ∧ (∀ t, hi ≤ t → t < n → p t = true)))
  case atStart => exact ⟨0, n, rfl, rfl, Nat.zero_le _, Nat.le_refl _, by omega, Below.refl _ _, (⟨fun t ht => absurd ht (Nat.not_lt_zero _), fun t h1 h2 => by omega⟩ : (∀ t, t < 0 → p t = false) ∧ (∀ t, n ≤ t → t < n → p t = true))⟩
  case round =>
    obtain ⟨lo, hi, rfl, rfl, hlh, hin, hg, HB, I⟩ := hrel
    by_cases hlt : lo < hi
    · have hc := HF.out wr ((lo + hi) / 2) HB.out (by omega)
      rw [show (((lo + hi) / 2 : Nat) : Int) = ((lo : Int) + (hi : Int)) / 2 by omega] at hc
      cases hp : p ((lo + hi) / 2) <;> rw [hp] at hc
      · have HP : Hid (p ((lo + hi) / 2) = false) := hp
        clear hp
        go_wp2_with (go_at_fn g; refine hc.mono ?_; rintro e w' ⟨rfl, hb⟩)
        have HB2 := Lib.hid (HB.out.trans (hb.mono HB.out.size))
        clear hb
        go_roundg (hi - ((lo + hi) / 2 + 1))
        case measure => omega
        case rel =>
          have I2 : Hid ((∀ t, t < (lo + hi) / 2 + 1 → p t = false) ∧ (∀ t, hi ≤ t → t < n → p t = true)) := ⟨fun t ht => (by
            cases h : p t with
            | false => rfl
            | true => have := M.out t ((lo + hi) / 2) (by omega) (by omega) h; rw [HP.out] at this; cases this), I.out.2⟩
          exact ⟨(lo + hi) / 2 + 1, hi, by rw [show ((lo : Int) + (hi : Int)) / 2 + 1 = (((lo + hi) / 2 + 1 : Nat) : Int) by omega], rfl, by omega, hin, Nat.le_refl _, HB2, I2⟩
      · have HP : Hid (p ((lo + hi) / 2) = true) := hp
        clear hp
        go_wp2_with (go_at_fn g; refine hc.mono ?_; rintro e w' ⟨rfl, hb⟩)
        have HB2 := Lib.hid (HB.out.trans (hb.mono HB.out.size))
        clear hb
        go_roundg ((lo + hi) / 2 - lo)
        case measure => omega
        case rel =>
          have I2 : Hid ((∀ t, t < lo → p t = false) ∧ (∀ t, (lo + hi) / 2 ≤ t → t < n → p t = true)) := ⟨I.out.1, fun t ht htn => M.out ((lo + hi) / 2) t ht htn HP.out⟩
          exact ⟨lo, (lo + hi) / 2, rfl, by rw [show ((lo : Int) + (hi : Int)) / 2 = (((lo + hi) / 2 : Nat) : Int) by omega], by omega, by omega, Nat.le_refl _, HB2, I2⟩
    · obtain rfl : hi = lo := by omega
      go_wp2
      go_ret
      exact ⟨hi, rfl, hin, I.out.1, I.out.2, HB.out⟩


theorem bl_irr : ∀ x : List UInt8, Op.bytesLess x x = false
  | [] => rfl
  | a :: x => by simp [Op.bytesLess, bl_irr x]
theorem bl_trans : ∀ x y z : List UInt8, Op.bytesLess x y = true → Op.bytesLess y z = true → Op.bytesLess x z = true
  | _, [], _, h, _ => by cases ‹List UInt8› <;> simp [Op.bytesLess] at h
  | _, _ :: _, [], _, h => by simp [Op.bytesLess] at h
  | [], _ :: _, _ :: _, _, _ => rfl
  | a :: x, b :: y, c :: z, h, g => by
    simp only [Op.bytesLess, Bool.or_eq_true, decide_eq_true_eq, Bool.and_eq_true, beq_iff_eq] at *
    rcases h with h | ⟨rfl, h⟩
    · rcases g with g | ⟨rfl, g⟩
      · exact .inl (UInt8.lt_trans h g)
      · exact .inl h
    · rcases g with g | ⟨rfl, g⟩
      · exact .inl g
      · exact .inr ⟨rfl, bl_trans x y z h g⟩
theorem bl_tri : ∀ x y : List UInt8, Op.bytesLess x y = false → Op.bytesLess y x = false → x = y
  | [], [], _, _ => rfl
  | [], _ :: _, h, _ => by simp [Op.bytesLess] at h
  | _ :: _, [], _, h => by simp [Op.bytesLess] at h
  | a :: x, b :: y, h, g => by
    simp only [Op.bytesLess, Bool.or_eq_false_iff, decide_eq_false_iff_not, Bool.and_eq_false_iff] at h g
    have hab : a = b := by
      have h1 := h.1
      have g1 := g.1
      have h2 : ¬ a.toNat < b.toNat := fun q => h1 (UInt8.lt_iff_toNat_lt.2 q)
      have g2 : ¬ b.toNat < a.toNat := fun q => g1 (UInt8.lt_iff_toNat_lt.2 q)
      exact UInt8.toNat_inj.1 (by omega)
    subst hab
    have h2 := h.2
    have g2 := g.2
    simp at h2 g2
    rw [bl_tri x y h2 g2]
/-- a text is ahead of another one -/
def lessB (a b : ByteArray) : Bool := Op.bytesLess a.toList b.toList
theorem bytes_ext {a b : ByteArray} (h : a.toList = b.toList) : a = b := by
  rw [ByteArray.toList_eq, ByteArray.toList_eq] at h; cases a; cases b; simp only at h; congr 1; exact Array.ext' h
theorem lessB_irr (a : ByteArray) : lessB a a = false := bl_irr _
theorem lessB_trans {a b c : ByteArray} (h : lessB a b = true) (g : lessB b c = true) : lessB a c = true := bl_trans _ _ _ h g
theorem lessB_tri {a b : ByteArray} (h : lessB a b = false) (g : lessB b a = false) : a = b := bytes_ext (bl_tri _ _ h g)
theorem beqB (a b : ByteArray) : (a.toList == b.toList) = decide (a = b) := by
  rw [Bool.eq_iff_iff]
  simp only [beq_iff_eq, decide_eq_true_eq]
  exact ⟨bytes_ext, fun h => by rw [h]⟩
def Srt (L : List AtC) : Prop := L.Pairwise fun a b => lessB a.key b.key = true
theorem srt_get {L : List AtC} (h : Srt L) {i j : Nat} (hij : i < j) (hj : j < L.length) : lessB (L.getD i default).key (L.getD j default).key = true := by
  rw [List.getD_eq_getElem?_getD, List.getD_eq_getElem?_getD, List.getElem?_eq_getElem hj, List.getElem?_eq_getElem (by omega)]
  exact List.pairwise_iff_getElem.1 h i j (by omega) hj hij

/-- a table in block g: its next offset, its rows in the slice v -/
structure Tbl (w : World) (base g : Nat) (next : Int) (v : Value) (L : List AtC) : Prop where
  box : w.heap[g]? = some (.cells #[.int .i64 next, v] 70 (0, 0))
  row : w.ownsRow base 81 5 v L.length (ccells L)
  far : v.ownBlock ≠ some g
  srt : Srt L
  ok : ∀ r ∈ L, r.ok
section
variable {w w' : World} {base g : Nat} {next : Int} {v : Value} {L : List AtC}
theorem Tbl.lt (h : Tbl w base g next v L) : g < w.heap.size := (Array.getElem?_eq_some_iff.1 h.box).1
theorem Tbl.below (h : Tbl w base g next v L) (hb : Below w.heap.size w w') : Tbl w' base g next v L :=
  ⟨(hb.block g h.lt).trans h.box, rowb5 h.row hb, h.far, h.srt, h.ok⟩
theorem Tbl.c0 (h : Tbl w base g next v L) : w.cell? ⟨g, 0, none⟩ = some (.int .i64 next) := cell_of_row _ _ 0 _ _ _ h.box
theorem Tbl.c1 (h : Tbl w base g next v L) : w.cell? ⟨g, 1, none⟩ = some v := cell_of_row _ _ 1 _ _ _ h.box
theorem Tbl.acs (h : Tbl w base g next v L) : ∃ A c, v = .slice A L.length c ∧ L.length ≤ c ∧ c ≤ maxLen ∧ Acs w w.heap.size A L.length L := Acs.of_row h.row rfl h.ok
end
theorem two_cells9 (w : World) (u1 u2 : Value) (t1 t2 : TypeId) : ((w.alloc (.cells #[u1] t1)).alloc (.cells #[u2] t2)).cell? ⟨w.heap.size, 0, none⟩ = some u1 ∧ ((w.alloc (.cells #[u1] t1)).alloc (.cells #[u2] t2)).cell? ⟨w.heap.size + 1, 0, none⟩ = some u2 := by
  have h1 := heap_alloc_new w (.cells #[u1] t1)
  have h2 := heap_alloc_new (w.alloc (.cells #[u1] t1)) (.cells #[u2] t2)
  rw [show (w.alloc (.cells #[u1] t1)).heap.size = w.heap.size + 1 from by simp] at h2
  have h3 := ((Below.refl (w.heap.size + 1) (w.alloc (.cells #[u1] t1))).alloc (by simp) (.cells #[u2] t2)).block w.heap.size (by omega)
  exact ⟨cell_of_row _ _ 0 _ _ _ (h3.trans h1), cell_of_row _ _ 0 _ _ _ h2⟩

set_option maxRecDepth 100000 in
set_option maxHeartbeats 4000000 in
theorem find1_any (b1 b2 base g i : Nat) (key : ByteArray) (next : Int) (v : Value) (L : List AtC) (w : World) (h1 : w.cell? ⟨b1, 0, none⟩ = some (.pointer (some ⟨g, 0, none⟩))) (h2 : w.cell? ⟨b2, 0, none⟩ = some (.string key)) (hT : Tbl w base g next v L) (hi : i < L.length) (hm : L.length ≤ 1000000) :
    Calls Try.prog 94 #[.int .i64 i, .pointer (some ⟨b1, 0, none⟩), .pointer (some ⟨b2, 0, none⟩)] w fun e w' => e = .returned (.bool (!lessB (L.getD i default).key key)) ∧ Below w.heap.size w w' := by
  obtain ⟨A, c, rfl, hc, hcm, hA⟩ := hT.acs
  obtain ⟨p, rfl, hp, r0, r1, r2, r3, r4⟩ := hA.row hi
  have c1 := hT.c1
  have hiz : (i : Int) < (L.length : Int) := by omega
  generalize L.getD i default = re at *
  obtain ⟨off, k, value, gone, time⟩ := re
  simp only [lessB] at *
  have g1 := cell_regrown r1
  have g3 := cell_regrown c1
  have g4 := cell_regrown h1
  have g5 := cell_regrown h2
  clear hA hT r0 r2 r3 r4
  go_enter Try.func94, Try.ntmps94
  go_wp2_with fail
  refine wp_region_quiet_below (by kernel_rfl) (by kernel_rfl) ?_
  repeat (go_big_quiet_step (fail))
  refine wpQuiet_nil ?_
  intro _ hw'
  obtain ⟨⟨dq, osq⟩, hw''⟩ := hw'
  subst hw''
  go_wp2_with fail
  go_ret
  exact ⟨rfl, below_regrown w dq osq⟩

def posOk (L : List AtC) (key : ByteArray) (r : Nat) : Prop := r ≤ L.length ∧ (∀ t, t < r → lessB (L.getD t default).key key = true) ∧ (∀ t, r ≤ t → t < L.length → lessB (L.getD t default).key key = false)
def thereB (L : List AtC) (key : ByteArray) (r : Nat) : Bool := decide (r < L.length) && decide ((L.getD r default).key = key)
set_option maxRecDepth 100000 in
set_option maxHeartbeats 4000000 in
theorem find_any (base g : Nat) (key : ByteArray) (next : Int) (v : Value) (L : List AtC) (w : World) (hT : Tbl w base g next v L) (hm : L.length ≤ 1000000) :
    Calls Try.prog 81 #[.pointer (some ⟨g, 0, none⟩), .string key] w fun e w' => ∃ r : Nat, e = .returned (.tuple #[.int .i64 r, .bool (thereB L key r)]) ∧ posOk L key r ∧ Below w.heap.size w w' := by
  obtain ⟨W0, hW0⟩ : ∃ W0, (w.alloc (.cells #[.pointer (some ⟨g, 0, none⟩)] 23)).alloc (.cells #[.string key] 9) = W0 := ⟨_, rfl⟩
  have hB0 : Below w.heap.size w W0 := by rw [← hW0]; exact ((Below.refl _ _).alloc (Nat.le_refl _) _).alloc (by simp) _
  have hz0 : W0.heap.size = w.heap.size + 2 := by rw [← hW0]; simp
  obtain ⟨k1, k2⟩ := two_cells9 w (.pointer (some ⟨g, 0, none⟩)) (.string key) 23 9
  rw [hW0] at k1 k2
  have hT0 := hT.below hB0
  have ec : ∀ args w, (callFunc 94 args).run Try.prog w = .ok (.enter 94 args) w := enters_of Try.func94 (by kernel_rfl) rfl
  have HS := Lib.hid (search_any 94 #[.pointer (some ⟨w.heap.size, 0, none⟩), .pointer (some ⟨w.heap.size + 1, 0, none⟩)] L.length (fun i => !lessB (L.getD i default).key key) W0 ec (by omega)
    (fun W i hB hi => find1_any w.heap.size (w.heap.size + 1) base g i key next v L W ((hB.cell (p := ⟨w.heap.size, 0, none⟩) (by show w.heap.size < _; omega)).trans k1) ((hB.cell (p := ⟨w.heap.size + 1, 0, none⟩) (by show w.heap.size + 1 < _; omega)).trans k2) (hT0.below hB) hi hm)
    (fun a b hab hb h => by
      simp only [Bool.not_eq_true'] at h ⊢
      cases q : lessB (L.getD b default).key key with
      | false => rfl
      | true =>
        rcases Nat.lt_or_ge a b with hlt | hge
        · rw [lessB_trans (srt_get hT.srt hlt hb) q] at h; cases h
        · rw [show a = b by omega, q] at h; cases h))
  have HT0 := Lib.hid hT0
  obtain ⟨A, c, rfl, hc, hcm, _⟩ := hT.acs
  have hg0 := hT0.c1
  have HB0 := Lib.hid hB0
  have HW0 := Lib.hid hW0
  have hgl := hT.lt
  clear hT hT0 hB0 hW0
  go_enter Try.func81, Try.ntmps81
  go_upto_region 1 with fail
  rw [HW0.out]
  go_upto_region 2 with (go_at_call 93; refine HS.out.mono ?_; rintro e w' ⟨r, rfl, h1, h2, h3, hb⟩)
  have hT2 := HT0.out.below hb
  have hg2 := hT2.c1
  have k12 := (hb.cell (p := ⟨w.heap.size, 0, none⟩) (by show w.heap.size < _; omega)).trans k1
  have k22 := (hb.cell (p := ⟨w.heap.size + 1, 0, none⟩) (by show w.heap.size + 1 < _; omega)).trans k2
  have HP : Hid (posOk L key r) := ⟨h1, fun t ht => by have := h2 t ht; simpa using this, fun t h4 h5 => by have := h3 t h4 h5; simpa using this⟩
  have HB2 : Hid (Below w.heap.size w w') := HB0.out.trans (hb.mono (by omega))
  clear HS k1 k2 hb h2 h3 hg0
  by_cases hr : r < L.length
  · obtain ⟨A', c', hv', _, _, hA⟩ := hT2.acs
    injection hv' with e1 _ _
    subst e1
    obtain ⟨p, rfl, hp, r0, r1, r2, r3, r4⟩ := hA.row hr
    have HTH : Hid (thereB L key r = decide ((L.getD r default).key = key)) := by show _ = _; simp [thereB, hr]
    generalize L.getD r default = re at *
    obtain ⟨off, k, value, gone, time⟩ := re
    simp only at *
    have hrz : (r : Int) < (L.length : Int) := by omega
    have g1 := cell_regrown r1
    have g3 := cell_regrown hg2
    have g4 := cell_regrown k12
    have g5 := cell_regrown k22
    have hz2 := HB2.out.size
    clear hA hT2 r0 r2 r3 r4 HT0 r1 hg2 k12 k22
    go_wp2_with fail
    refine wp_region_quiet_below (by kernel_rfl) (by kernel_rfl) ?_
    repeat (go_big_quiet_step (fail))
    refine wpQuiet_nil ?_
    intro _ hw'
    obtain ⟨⟨dq, osq⟩, hw''⟩ := hw'
    subst hw''
    go_wp2_with fail
    go_ret2
    exact ⟨r, by rw [HTH.out, ← beqB]; rfl, HP.out, HB2.out.trans ((below_regrown w' dq osq).mono hz2)⟩
  · have HTH : Hid (thereB L key r = false) := by show _ = _; simp [thereB, hr]
    have hrz : decide ((r : Int) < (L.length : Int)) = false := by simp; omega
    have g3 := cell_regrown hg2
    have g4 := cell_regrown k12
    have g5 := cell_regrown k22
    have hz2 := HB2.out.size
    clear hT2 HT0 hg2 k12 k22
    go_wp2_with fail
    refine wp_region_quiet_below (by kernel_rfl) (by kernel_rfl) ?_
    repeat (go_big_quiet_step (fail))
    refine wpQuiet_nil ?_
    intro _ hw'
    obtain ⟨⟨dq, osq⟩, hw''⟩ := hw'
    subst hw''
    go_wp2_with fail
    go_ret2
    exact ⟨r, by rw [HTH.out]; rfl, HP.out, HB2.out.trans ((below_regrown w' dq osq).mono hz2)⟩
end Go.Proofs.Ytmlekkbjmfknfaa
