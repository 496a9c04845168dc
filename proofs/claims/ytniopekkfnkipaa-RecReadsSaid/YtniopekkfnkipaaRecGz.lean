/-
  rec's decoder in memory, with the reader's error and what it has met; what must and upTo do, whatever the bytes say.
  What decoder.record does, whatever the bytes say.
  What decoder.records does, whatever the bytes say.
  What decoder.batch does, whatever the bytes say.
  Plain mathematics: what can be read as a batch is that batch's bytes, and nothing else.
  What rec.Decode does, whatever the bytes say.
  Plain mathematics: the beginning of a batch's bytes is no batch.
-/
import Derived.Test.YtniopekkfnkipaaRecD
import Derived.Test.YtniopekkfnkipaaWrZ
import Derived.Test.YtniopekkfnkipaaRecDz
namespace Go.Proofs.Ytniopekkfnkipaa
open Go.RowKit
set_option linter.unusedVariables false
set_option linter.unusedSimpArgs false

/-- a decoder in block d, its reader in block g at p with the error er; wr: it has met something wrong -/
structure Dg (w : World) (d g : Nat) (A : Option Addr) (c : Nat) (l : List UInt8) (p er : Nat) (wr : Bool) : Prop where
  blk : w.heap[d]? = some (.cells #[.pointer (some ⟨g, 0, none⟩), .bool wr] 47 (0, 0))
  rd : Rd w g A c l p er
  lt : g < d
section
variable {w w' : World} {d g c p q er eq : Nat} {wr : Bool} {A : Option Addr} {l : List UInt8}
theorem Dg.dlt (h : Dg w d g A c l p er wr) : d < w.heap.size := (Array.getElem?_eq_some_iff.1 h.blk).1
theorem Dg.c0 (h : Dg w d g A c l p er wr) : w.cell? ⟨d, 0, none⟩ = some (.pointer (some ⟨g, 0, none⟩)) := cell_of_row w d 0 _ _ _ h.blk
theorem Dg.c1 (h : Dg w d g A c l p er wr) : w.cell? ⟨d, 1, none⟩ = some (.bool wr) := cell_of_row w d 1 _ _ _ h.blk
theorem Dg.free (h : Dg w d g A c l p er wr) (i : Nat) : w.frozen? ⟨d, i, none⟩ = false := frozen_of_row w d i _ _ h.blk
theorem Dg.below {B : Nat} (h : Dg w d g A c l p er wr) (hb : Below B w w') (hB : d < B) : Dg w' d g A c l p er wr := ⟨(hb.block d hB).trans h.blk, h.rd.below hb (by have := h.lt; omega), h.lt⟩
theorem Dg.read (h : Dg w d g A c l p er wr) (hr : Rd w' g A c l q eq) (hg : w.grownBy w' (some g)) : Dg w' d g A c l q eq wr :=
  ⟨(hg.block d h.dlt (fun e => by injection e with e; have := h.lt; omega)).trans h.blk, hr, h.lt⟩
theorem Dg.alloc (h : Dg w d g A c l p er wr) (o : Obj) : Dg (w.alloc o) d g A c l p er wr := h.below ((Below.refl w.heap.size w).alloc (Nat.le_refl _) o) h.dlt
theorem Dg.drewN (h : Dg w d g A c l p er wr) (k : Nat) : Dg (w.drewN k) d g A c l p er wr := h.below (below_draws (Below.refl w.heap.size w) k) h.dlt
theorem Dg.drew (h : Dg w d g A c l p er wr) : Dg w.drew d g A c l p er wr := h.below ((Below.refl w.heap.size w).drew) h.dlt
theorem Dg.set (h : Dg w d g A c l p er wr) {b : Nat} (hb : d < b) (i : Nat) (u : Value) : Dg (w.setCell ⟨b, i, none⟩ u) d g A c l p er wr := by
  have k := grown_set w b i u
  refine ⟨(k.block d h.dlt (fun e => by injection e with e; omega)).trans h.blk, ?_, h.lt⟩
  have hl := h.lt
  have hr := h.rd
  have hk : ∀ x : Addr, x.block < b → (w.setCell ⟨b, i, none⟩ u).cell? x = w.cell? x := fun x hx => World.cell?_setCell_other w _ _ _ (fun e => by rw [← e] at hx; exact absurd hx (by simp))
  exact ⟨(k.block g hr.lt (fun e => by injection e with e; omega)).trans hr.blk, hr.cap, hr.capm, hr.bs.keep fun x hx => hk x (by omega), hr.pos, hr.small⟩
theorem Dg.mark (h : Dg w d g A c l p er wr) (on : Bool) : Dg (w.setCell ⟨d, 1, none⟩ (.bool on)) d g A c l p er on := by
  refine ⟨by rw [heap_setCell_same w d 1 _ _ _ h.blk]; rfl, ?_, h.lt⟩
  have hl := h.lt
  have hr := h.rd
  have k := grown_set w d 1 (.bool on)
  have hk : ∀ x : Addr, x.block < d → (w.setCell ⟨d, 1, none⟩ (.bool on)).cell? x = w.cell? x := fun x hx => World.cell?_setCell_other w _ _ _ (fun e => by rw [← e] at hx; exact absurd hx (by simp))
  exact ⟨(k.block g hr.lt (fun e => by injection e with e; omega)).trans hr.blk, hr.cap, hr.capm, hr.bs.keep fun x hx => hk x (by omega), hr.pos, hr.small⟩
theorem Dg.grown {o : Option Nat} (h : Dg w d g A c l p er wr) (hg : w.grownBy w' o) (ho : ∀ k, o = some k → d < k) : Dg w' d g A c l p er wr := by
  have hl := h.lt
  have hr := h.rd
  have hk : ∀ i, i ≤ d → w'.heap[i]? = w.heap[i]? := fun i hi => hg.block i (by have := h.dlt; omega) (fun e => by have := ho i e.symm; omega)
  exact ⟨(hk d (Nat.le_refl _)).trans h.blk, ⟨(hk g (by omega)).trans hr.blk, hr.cap, hr.capm, hr.bs.keep fun x hx => World.cell?_of_block (hk x.block (by omega)), hr.pos, hr.small⟩, h.lt⟩
end

set_option maxHeartbeats 1000000 in
theorem must_any (d g c p er : Nat) (wr ok : Bool) (A : Option Addr) (l : List UInt8) (w : World) (h : Dg w d g A c l p er wr) :
    Calls Try.prog 34 #[.pointer (some ⟨d, 0, none⟩), .bool ok] w fun e w' => e = .returned (.tuple #[]) ∧ Dg w' d g A c l p er (wr || !ok) ∧ Two g d w w' := by
  have c1 := h.c1
  have f1 := h.free 1
  have HD := Lib.hid (fun on => h.mark on)
  clear h
  cases wr <;> cases ok
  all_goals
    go_enter Try.func34, Try.ntmps34
    go_wp2
    go_end0
    exact ⟨rfl, HD.out _, Two.set _ _ _⟩

/-- an unsigned number up to most, as the decoder reads it: the number, where it then stands, its error, and whether it has met something wrong -/
def upV (l : List UInt8) (p er most : Nat) : Nat := if most < (uR l p er).1 then 0 else (uR l p er).1
def upW (l : List UInt8) (p er most : Nat) : Bool := decide (most < (uR l p er).1)
theorem upV_le (l : List UInt8) (p er most : Nat) : upV l p er most ≤ most := by
  unfold upV
  split <;> omega

set_option maxHeartbeats 1000000 in
theorem upTo_any (d g c p er most : Nat) (wr : Bool) (A : Option Addr) (l : List UInt8) (w : World) (h : Dg w d g A c l p er wr) (hm : most < 9223372036854775808) :
    Calls Try.prog 36 #[.pointer (some ⟨d, 0, none⟩), .int .i64 (most : Int)] w fun e w' => e = .returned (.int .i64 (upV l p er most : Int)) ∧ Dg w' d g A c l (uR l p er).2.1 (uR l p er).2.2 (wr || upW l p er most) ∧ Two g d w w' := by
  have c0 := h.c0
  have HU := Lib.hid (pU_any h.rd)
  have HD := Lib.hid h
  have hlt := uR_lt l p er
  unfold upV upW
  clear h
  generalize uR l p er = t at *
  obtain ⟨n, q, e1⟩ := t
  simp only at HU hlt ⊢
  by_cases hn : most < n
  · have hd : decide ((most : Int) < (n : Int)) = true := by rw [decide_eq_true_iff]; omega
    rw [if_pos hn, decide_eq_true hn, Bool.or_true]
    go_enter Try.func36, Try.ntmps36
    go_wp2_with fail
    refine HU.out.mono ?_
    rintro e w1 ⟨rfl, hr1, hg1⟩
    have hD1 := HD.out.read hr1 hg1
    have x1 := hD1.c1
    have f1 := hD1.free 1
    have HD1 := Lib.hid (hD1.mark true)
    have HT := Lib.hid ((Two.of_grown (d := d) hg1).trans (Two.set (g := g) (d := d) w1 1 (.bool true)))
    clear hr1 HU hD1 hg1
    go_wp2_with fail
    go_ret
    exact ⟨rfl, HD1.out, HT.out⟩
  · have hd : decide ((most : Int) < (n : Int)) = false := by rw [decide_eq_false_iff_not]; omega
    rw [if_neg hn, decide_eq_false hn, Bool.or_false]
    go_enter Try.func36, Try.ntmps36
    go_wp2_with fail
    refine HU.out.mono ?_
    rintro e w1 ⟨rfl, hr1, hg1⟩
    have hD1 := HD.out.read hr1 hg1
    clear hr1 HU
    have HD1 := Lib.hid hD1
    clear hD1
    go_wp2_with fail
    go_ret
    exact ⟨rfl, HD1.out, Two.of_grown hg1⟩

theorem textE_most {l : List UInt8} {p er : Nat} {most : Int} (h : textE l p er most = 0) : (uR l p er).1 ≤ most.toNat ∧ (uR l p er).2.2 = 0 := by
  unfold textE at h
  by_cases h1 : mE l p er most = 0 ∧ l.length - (uR l p er).2.1 < (uR l p er).1
  · rw [if_pos h1] at h; cases h
  · rw [if_neg h1] at h
    unfold mE at h
    by_cases h2 : (uR l p er).2.2 = 0 ∧ most.toNat < (uR l p er).1
    · rw [if_pos h2] at h; cases h
    · rw [if_neg h2] at h
      exact ⟨by omega, h⟩
theorem textR_len (l : List UInt8) (p er : Nat) (most : Int) : (textR l p er most).1.length ≤ most.toNat := by
  unfold textR
  by_cases h : textE l p er most ≠ 0
  · rw [if_pos h]; exact Nat.zero_le _
  · rw [if_neg h]
    have := (textE_most (Classical.not_not.1 h)).1
    show ((l.drop _).take _).length ≤ _
    rw [List.length_take]; omega
end Go.Proofs.Ytniopekkfnkipaa
namespace Go.Proofs.Ytniopekkfnkipaa
open Go.RowKit
set_option linter.unusedVariables false
set_option linter.unusedSimpArgs false

theorem iR_i64 (l : List UInt8) (p er : Nat) : i64_ (iR l p er).1 := by
  have h := uR_lt l p er
  unfold iR i64_ Wn.zag
  generalize (uR l p er).1 = n at *
  simp only
  split <;> omega
theorem uR_ok {l : List UInt8} {p er u q : Nat} (h : uR l p er = (u, q, 0)) : er = 0 ∧ dUint l p = .ok (.int .u64 (u : Int)) q := by
  rcases Nat.eq_zero_or_pos er with he | he
  · subst he
    refine ⟨rfl, ?_⟩
    rw [dUint_num]
    unfold uR at h
    rw [if_pos rfl] at h
    injection h with h1 h2
    injection h2 with h2 h3
    by_cases hz : (numP (l.drop p)).2 = 0
    · rw [if_pos hz] at h3; cases h3
    · rw [if_neg hz, h1, h2]
  · rw [uR_err he] at h; injection h with _ h; injection h with _ h; omega
theorem iR_ok {l : List UInt8} {p er q : Nat} {t : Int} (h : iR l p er = (t, q, 0)) : er = 0 ∧ dInt l p = .ok (.int .i64 t) q := by
  rcases Nat.eq_zero_or_pos er with he | he
  · subst he
    refine ⟨rfl, ?_⟩
    rw [int_m, h, if_neg (by simp)]
  · rw [iR_err he] at h; injection h with _ h; injection h with _ h; omega
theorem flagR_ok {l : List UInt8} {p er q : Nat} {on : Bool} (hp : p ≤ l.length) (h : flagR l p er = (on, q, 0)) : er = 0 ∧ dFlag l p = .ok (.bool on) q := by
  rcases Nat.eq_zero_or_pos er with he | he
  · subst he
    refine ⟨rfl, ?_⟩
    rw [flagR_0 hp] at h
    unfold dFlag
    by_cases h1 : p < l.length ∧ (l.getD p 0).toNat ≤ 1
    · rw [if_pos h1] at h
      injection h with a b
      injection b with b _
      rw [if_pos h1.1, if_pos h1.2, a, b]
    · rw [if_neg h1] at h; injection h with _ h; injection h with _ h; cases h
  · rw [flagR_err he] at h; injection h with _ h; injection h with _ h; omega
theorem textR_ok {l : List UInt8} {p er q : Nat} {most : Int} {x : List UInt8} (h : textR l p er most = (x, q, 0)) : er = 0 ∧ dText l p most = .ok (.string ⟨x.toArray⟩) q := by
  rcases Nat.eq_zero_or_pos er with he | he
  · subst he
    refine ⟨rfl, ?_⟩
    rw [text_m, h, if_neg (by simp)]
  · rw [textR_err he] at h; injection h with _ h; injection h with _ h; omega
theorem byteR_ok {l : List UInt8} {p er q b : Nat} (hp : p ≤ l.length) (h : byteR l p er = (b, q, 0)) : er = 0 ∧ dByte l p = .ok (.int .i64 (b : Int)) q := by
  rcases Nat.eq_zero_or_pos er with he | he
  · subst he
    refine ⟨rfl, ?_⟩
    rw [byteR_0 hp] at h
    unfold dByte
    by_cases h1 : p < l.length
    · rw [if_pos h1] at h
      injection h with a b
      injection b with b _
      rw [if_pos h1, a, b]
    · rw [if_neg h1] at h; injection h with _ h; injection h with _ h; cases h
  · rw [byteR_err he] at h; injection h with _ h; injection h with _ h; omega
theorem extract_back (last kx : ByteArray) (n : Nat) (hn : n ≤ last.size) : (last.extract 0 n ++ kx).extract n (last.extract 0 n ++ kx).size = kx := by
  have hz : (last.extract 0 n).size = n := by rw [ByteArray.size_extract]; omega
  apply ByteArray.ext
  apply Array.ext'
  rw [ByteArray.data_extract, Array.toList_extract, List.extract_eq_take_drop, ByteArray.data_append, Array.toList_append]
  have hl : (last.extract 0 n).data.toList.length = n := by simpa using hz
  rw [List.drop_append, hl, Nat.sub_self, List.drop_zero, List.drop_of_length_le (by omega), List.nil_append, List.take_of_length_le]
  rw [ByteArray.size_append, hz]; simp
/-- what was read without an error and met nothing wrong is a record -/
theorem rec_sound {l kx vx : List UInt8} {time t : Int} {last : ByteArray} {p q er er' p1 e1 p2 e2 p3 e3 p4 e4 u n : Nat} {wr on : Bool} (hp : p1 ≤ l.length)
    (h1 : iR l p er = (t, p1, e1)) (h2 : flagR l p1 e1 = (on, p2, e2)) (h3 : uR l p2 e2 = (u, p3, e3)) (h4 : textR l p3 e3 1024 = (kx, p4, e4)) (hn : n = if last.size < u then 0 else u) (t3 : 0 ≤ time) (t4 : time ≤ 1099511627776)
    (h5 : on = false → textR l p4 e4 1024 = (vx, q, er')) (h6 : on = true → vx = [] ∧ q = p4 ∧ er' = e4) (he : er' = 0)
    (hw : ((wr || decide (last.size < u)) || !(((comm last.data.toList (last.extract 0 n ++ ⟨kx.toArray⟩).data.toList : Nat) : Int) == (n : Int))) = false) :
    er = 0 ∧ wr = false ∧ (0 ≤ wrap64 (time + t) → RecAt l time last p ⟨last.extract 0 n ++ ⟨kx.toArray⟩, ⟨vx.toArray⟩, on, wrap64 (time + t)⟩ q) := by
  subst he
  have ht := iR_i64 l p er
  rw [h1] at ht
  have k4 : e4 = 0 := by
    cases on with
    | true => exact (h6 rfl).2.2.symm
    | false => exact (textR_ok (h5 rfl)).1
  subst k4
  obtain ⟨k3, d4⟩ := textR_ok h4
  subst k3
  obtain ⟨k2, d3⟩ := uR_ok h3
  subst k2
  obtain ⟨k1, d2⟩ := flagR_ok hp h2
  subst k1
  obtain ⟨k0, d1⟩ := iR_ok h1
  simp only [Bool.or_eq_false_iff, decide_eq_false_iff_not, Bool.not_eq_false', beq_iff_eq] at hw
  obtain ⟨⟨w1, w2⟩, w3⟩ := hw
  rw [if_neg w2] at hn
  subst hn
  refine ⟨k0, w1, fun hz => ?_⟩
  have hcm : comm last.data.toList (last.extract 0 n ++ ⟨kx.toArray⟩).data.toList = n := by omega
  refine ⟨p1, p2, p3, p4, t, d1, ?_, d2, ?_, ?_, ?_, ?_⟩
  · show wrap64 (time + t) = time + t
    unfold wrap64 at hz ⊢
    unfold i64_ at ht
    omega
  · show dUint l p2 = .ok (.int .u64 ((comm last.data.toList (last.extract 0 n ++ ⟨kx.toArray⟩).data.toList : Nat) : Int)) p3
    rw [hcm]; exact d3
  · show dText l p3 1024 = .ok (.string ((last.extract 0 n ++ ⟨kx.toArray⟩).extract (comm last.data.toList (last.extract 0 n ++ ⟨kx.toArray⟩).data.toList) (last.extract 0 n ++ ⟨kx.toArray⟩).size)) p4
    rw [hcm, extract_back _ _ _ (by omega)]; exact d4
  · intro h
    obtain ⟨a, b, _⟩ := h6 h
    exact ⟨by show (⟨vx.toArray⟩ : ByteArray) = _; rw [a], b⟩
  · intro h
    exact (textR_ok (h5 h)).2

set_option maxRecDepth 100000 in
set_option maxHeartbeats 4000000 in
theorem drec_any (d g c p er : Nat) (wr : Bool) (A : Option Addr) (l : List UInt8) (time : Int) (last : ByteArray) (w : World) (h : Dg w d g A c l p er wr) (t3 : 0 ≤ time) (t4 : time ≤ 1099511627776) (hl : last.size ≤ 1048576) :
    Calls Try.prog 60 #[.pointer (some ⟨d, 0, none⟩), .int .i64 time, .string last] w fun e w' => ∃ r q er' wr', e = .returned (.agg (Rec.cells r).toArray) ∧ i64_ r.time ∧ r.key.size ≤ last.size + 1024 ∧ (er' = 0 → wr' = false → er = 0 ∧ wr = false ∧ (0 ≤ r.time → RecAt l time last p r q)) ∧ Dg w' d g A c l q er' wr' ∧ Two g d w w' := by
  obtain ⟨X, hX⟩ : ∃ X : Ending → World → Prop, (fun (e : Ending) (w' : World) => ∃ r q er' wr', e = .returned (.agg (Rec.cells r).toArray) ∧ i64_ r.time ∧ r.key.size ≤ last.size + 1024 ∧ (er' = 0 → wr' = false → er = 0 ∧ wr = false ∧ (0 ≤ r.time → RecAt l time last p r q)) ∧ Dg w' d g A c l q er' wr' ∧ Two g d w w') = X := ⟨_, rfl⟩
  have HX : Hid (∀ (r : Rec) q er' wr' w', i64_ r.time → r.key.size ≤ last.size + 1024 → (er' = 0 → wr' = false → er = 0 ∧ wr = false ∧ (0 ≤ r.time → RecAt l time last p r q)) → Dg w' d g A c l q er' wr' → Two g d w w' → X (.returned (.agg (Rec.cells r).toArray)) w') := fun r q er' wr' w' a1 a2 a3 a4 a5 => by rw [← hX]; exact ⟨r, q, er', wr', rfl, a1, a2, a3, a4, a5⟩
  rw [hX]
  clear hX
  have hin1 := (uR_in er h.rd.pos).2
  obtain ⟨t, p1, e1, hE1⟩ : ∃ t p1 e1, iR l p er = (t, p1, e1) := ⟨_, _, _, rfl⟩
  have hp1 : p1 ≤ l.length := by have := hin1; unfold iR at hE1; injection hE1 with _ b; rw [b] at this; exact this
  obtain ⟨gone, p2, e2, hE3⟩ : ∃ on p2 e2, flagR l p1 e1 = (on, p2, e2) := ⟨_, _, _, rfl⟩
  obtain ⟨u, p3, e3, hE4⟩ : ∃ u p3 e3, uR l p2 e2 = (u, p3, e3) := ⟨_, _, _, rfl⟩
  obtain ⟨kl, p4, e4, hE5⟩ : ∃ kl p4 e4, textR l p3 e3 1024 = (kl, p4, e4) := ⟨_, _, _, rfl⟩
  obtain ⟨vl, p5, e5, hE7⟩ : ∃ vl p5 e5, textR l p4 e4 1024 = (vl, p5, e5) := ⟨_, _, _, rfl⟩
  have hkx : kl.length ≤ 1024 := by have := textR_len l p3 e3 1024; rw [hE5] at this; exact this
  obtain ⟨n, hN⟩ : ∃ n, n = if last.size < u then 0 else u := ⟨_, rfl⟩
  have hnl : n ≤ last.size := by rw [hN]; split <;> omega
  obtain ⟨w3b, hW3⟩ : ∃ w3b, (wr || decide (last.size < u)) = w3b := ⟨_, rfl⟩
  have hUP : upV l p2 e2 last.size = n ∧ (wr || upW l p2 e2 last.size) = w3b := by unfold upV upW; rw [hE4]; exact ⟨hN.symm, hW3⟩
  have hks : (last.extract 0 n ++ ⟨kl.toArray⟩).size ≤ last.size + 1024 := by
    rw [ByteArray.size_append, ByteArray.size_extract]
    have : (⟨kl.toArray⟩ : ByteArray).size = kl.length := by simp [ByteArray.size]
    omega
  have hti : i64_ (wrap64 (time + t)) := by unfold wrap64 i64_; omega
  have HS1 : Hid (∀ vx q er', (gone = false → textR l p4 e4 1024 = (vx, q, er')) → (gone = true → vx = [] ∧ q = p4 ∧ er' = e4) → er' = 0 → (w3b || !(((comm last.data.toList (last.extract 0 n ++ ⟨kl.toArray⟩).data.toList : Nat) : Int) == (n : Int))) = false → er = 0 ∧ wr = false ∧ (0 ≤ wrap64 (time + t) → RecAt l time last p ⟨last.extract 0 n ++ ⟨kl.toArray⟩, ⟨vx.toArray⟩, gone, wrap64 (time + t)⟩ q)) := fun vx q er' a b c d' => rec_sound hp1 hE1 hE3 hE4 hE5 hN t3 t4 a b c (by rw [hW3]; exact d')
  have hv0 : (⟨#[]⟩ : ByteArray) = ⟨([] : List UInt8).toArray⟩ := rfl
  obtain ⟨kx, hkxe⟩ : ∃ kx : ByteArray, (⟨kl.toArray⟩ : ByteArray) = kx := ⟨_, rfl⟩
  have hkxs : kx.size ≤ 1024 := by rw [← hkxe]; simpa [ByteArray.size] using hkx
  rw [hkxe] at HS1 hks
  obtain ⟨key, hkey⟩ : ∃ key, last.extract 0 n ++ kx = key := ⟨_, rfl⟩
  rw [hkey] at HS1 hks
  have HKA := Lib.hid hkey
  have HCO : Hid (∀ W, Calls Try.prog 51 #[.string last, .string key] W fun e w' => e = .returned (.int .i64 (comm last.data.toList key.data.toList : Nat)) ∧ ∃ q, w' = W.drewN q) := fun W => common_any last key W (by omega) (by omega)
  generalize comm last.data.toList key.data.toList = cm at *
  obtain ⟨value, hvalue⟩ : ∃ value : ByteArray, (⟨vl.toArray⟩ : ByteArray) = value := ⟨_, rfl⟩
  obtain ⟨rt, hrt⟩ : ∃ rt, wrap64 (time + t) = rt := ⟨_, rfl⟩
  rw [hrt] at HS1 hti
  have HRT := Lib.hid hrt
  have HT1 : Hid (gone = true → e4 = 0 → (w3b || !((cm : Int) == (n : Int))) = false → er = 0 ∧ wr = false ∧ (0 ≤ rt → RecAt l time last p ⟨key, ⟨#[]⟩, gone, rt⟩ p4)) := fun hg a b => HS1.out [] p4 e4 (fun q => by rw [hg] at q; cases q) (fun _ => ⟨rfl, rfl, rfl⟩) a b
  have HT2 : Hid (gone = false → e5 = 0 → (w3b || !((cm : Int) == (n : Int))) = false → er = 0 ∧ wr = false ∧ (0 ≤ rt → RecAt l time last p ⟨key, value, gone, rt⟩ p5)) := fun hg a b => by rw [← hvalue]; exact HS1.out vl p5 e5 (fun _ => hE7) (fun q => by rw [hg] at q; cases q) a b
  have E1 := Lib.hid hE1
  have E3 := Lib.hid hE3
  have E4 := Lib.hid hE4
  have E5 := Lib.hid hE5
  have E7 := Lib.hid hE7
  have HUP := Lib.hid hUP
  have HKX := Lib.hid hkxe
  have HVX := Lib.hid hvalue
  clear hE1 hE3 hE4 hE5 hE7 hUP HS1 hkxe hkey hvalue hrt hW3 hN hp1 hin1 hv0
  have hdl := h.dlt
  have hT0 := (Two.of_below (g := g) (d := d) ((((Below.refl w.heap.size w).alloc (Nat.le_refl _) (.cells #[.string ⟨#[]⟩, .string ⟨#[]⟩, .bool false, .int .i64 0] 40)).alloc (by simp) (.cells #[.string ⟨#[]⟩, .string ⟨#[]⟩, .bool false, .int .i64 0] 40))))
  have hD0 := (h.alloc (.cells #[.string ⟨#[]⟩, .string ⟨#[]⟩, .bool false, .int .i64 0] 40)).alloc (.cells #[.string ⟨#[]⟩, .string ⟨#[]⟩, .bool false, .int .i64 0] 40)
  have hb6 : ((w.alloc (.cells #[.string ⟨#[]⟩, .string ⟨#[]⟩, .bool false, .int .i64 0] 40)).alloc (.cells #[.string ⟨#[]⟩, .string ⟨#[]⟩, .bool false, .int .i64 0] 40)).heap[w.heap.size]? = some (.cells #[.string ⟨#[]⟩, .string ⟨#[]⟩, .bool false, .int .i64 0] 40 (0, 0)) := by
    rw [← heap_alloc_new w (.cells #[.string ⟨#[]⟩, .string ⟨#[]⟩, .bool false, .int .i64 0] 40)]
    exact ((Below.refl (w.alloc (.cells #[.string ⟨#[]⟩, .string ⟨#[]⟩, .bool false, .int .i64 0] 40)).heap.size _).alloc (Nat.le_refl _) _).block w.heap.size (by simp)
  have hb7 : ((w.alloc (.cells #[.string ⟨#[]⟩, .string ⟨#[]⟩, .bool false, .int .i64 0] 40)).alloc (.cells #[.string ⟨#[]⟩, .string ⟨#[]⟩, .bool false, .int .i64 0] 40)).heap[w.heap.size + 1]? = some (.cells #[.string ⟨#[]⟩, .string ⟨#[]⟩, .bool false, .int .i64 0] 40 (0, 0)) := by
    have h := heap_alloc_new (w.alloc (.cells #[.string ⟨#[]⟩, .string ⟨#[]⟩, .bool false, .int .i64 0] 40)) (.cells #[.string ⟨#[]⟩, .string ⟨#[]⟩, .bool false, .int .i64 0] 40)
    rwa [show (w.alloc (.cells #[.string ⟨#[]⟩, .string ⟨#[]⟩, .bool false, .int .i64 0] 40)).heap.size = w.heap.size + 1 from by simp] at h
  generalize hW0 : (w.alloc (.cells #[.string ⟨#[]⟩, .string ⟨#[]⟩, .bool false, .int .i64 0] 40)).alloc (.cells #[.string ⟨#[]⟩, .string ⟨#[]⟩, .bool false, .int .i64 0] 40) = W0 at *
  have HW0 := Lib.hid hW0
  have HD0 := Lib.hid hD0
  have HT0 := Lib.hid hT0
  have HB6 := Lib.hid hb6
  have HB7 := Lib.hid hb7
  have x0 := hD0.c0
  have HI := Lib.hid (pI_any hD0.rd)
  rw [E1.out] at HI
  clear h hD0 hT0 hb6 hb7 hW0
  go_enter Try.func60, Try.ntmps60
  go_upto_region 2 with fail
  rw [HW0.out]
  go_wp2_with fail
  refine HI.out.mono ?_
  rintro e w1 ⟨rfl, hr1, hg1⟩
  have hD1 := HD0.out.read hr1 hg1
  have hT1 := HT0.out.trans (Two.of_grown (d := d) hg1)
  have hgd := HD0.out.lt
  have n6 : w.heap.size ≠ g := by omega
  have b6 := (hg1.block w.heap.size (Array.getElem?_eq_some_iff.1 HB6.out).1 (fun e => by injection e with e; omega)).trans HB6.out
  have b7 := (hg1.block (w.heap.size + 1) (Array.getElem?_eq_some_iff.1 HB7.out).1 (fun e => by injection e with e; omega)).trans HB7.out
  clear hr1 hg1 HI x0
  have y3 : w1.cell? ⟨w.heap.size + 1, 3, none⟩ = some (.int .i64 0) := cell_of_row w1 _ 3 _ _ _ b7
  have f3 : w1.frozen? ⟨w.heap.size + 1, 3, none⟩ = false := frozen_of_row w1 _ 3 _ _ b7
  have hD1s := hD1.set (b := w.heap.size + 1) (by omega) 3 (.int .i64 (wrap64 (time + t)))
  have hT1s := hT1.new (i := 3) (b := w.heap.size + 1) (.int .i64 (wrap64 (time + t))) (by omega)
  have b6s : (w1.setCell ⟨w.heap.size + 1, 3, none⟩ (.int .i64 (wrap64 (time + t)))).heap[w.heap.size]? = _ := ((grown_set w1 (w.heap.size + 1) 3 (.int .i64 (wrap64 (time + t)))).block w.heap.size (Array.getElem?_eq_some_iff.1 b6).1 (fun e => by injection e with e; omega)).trans b6
  have b7s : (w1.setCell ⟨w.heap.size + 1, 3, none⟩ (.int .i64 (wrap64 (time + t)))).heap[w.heap.size + 1]? = some (.cells #[.string ⟨#[]⟩, .string ⟨#[]⟩, .bool false, .int .i64 (wrap64 (time + t))] 40 (0, 0)) := by rw [heap_setCell_same w1 _ 3 _ _ _ b7]; rfl
  have x0 := hD1s.c0
  have HI := Lib.hid (pF_any hD1s.rd)
  rw [E3.out] at HI
  have HD1 := Lib.hid hD1s
  have HT1 := Lib.hid hT1s
  have HB6 := Lib.hid b6s
  have HB7 := Lib.hid b7s
  clear hD1 hT1 b6 b7 hD1s hT1s b6s b7s
  go_wp2_with fail
  generalize w1.setCell ⟨w.heap.size + 1, 3, none⟩ (.int .i64 (wrap64 (time + t))) = W1 at *
  rw [HRT.out] at HB7
  refine HI.out.mono ?_
  rintro e w2 ⟨rfl, hr2, hg2⟩
  have hD := HD1.out.read hr2 hg2
  have hT := HT1.out.trans (Two.of_grown (d := d) hg2)
  have b6 := (hg2.block w.heap.size (Array.getElem?_eq_some_iff.1 HB6.out).1 (fun e => by injection e with e; omega)).trans HB6.out
  have b7 := (hg2.block (w.heap.size + 1) (Array.getElem?_eq_some_iff.1 HB7.out).1 (fun e => by injection e with e; omega)).trans HB7.out
  clear hr2 hg2 HI x0 HD1 HT1 HB6 HB7 y3 f3
  have y2 : w2.cell? ⟨w.heap.size + 1, 2, none⟩ = some (.bool false) := cell_of_row w2 _ 2 _ _ _ b7
  have f2 : w2.frozen? ⟨w.heap.size + 1, 2, none⟩ = false := frozen_of_row w2 _ 2 _ _ b7
  have hDs := hD.set (b := w.heap.size + 1) (by omega) 2 (.bool gone)
  have hTs := hT.new (i := 2) (b := w.heap.size + 1) (.bool gone) (by omega)
  have b6s : (w2.setCell ⟨w.heap.size + 1, 2, none⟩ (.bool gone)).heap[w.heap.size]? = _ := ((grown_set w2 (w.heap.size + 1) 2 (.bool gone)).block w.heap.size (Array.getElem?_eq_some_iff.1 b6).1 (fun e => by injection e with e; omega)).trans b6
  have b7s : (w2.setCell ⟨w.heap.size + 1, 2, none⟩ (.bool gone)).heap[w.heap.size + 1]? = some (.cells #[.string ⟨#[]⟩, .string ⟨#[]⟩, .bool gone, .int .i64 rt] 40 (0, 0)) := by rw [heap_setCell_same w2 _ 2 _ _ _ b7]; rfl
  have HU := Lib.hid (upTo_any d g c p2 e2 last.size wr A l _ hDs (by omega))
  rw [HUP.out.1, HUP.out.2, E4.out] at HU
  have HD := Lib.hid hDs
  have HT := Lib.hid hTs
  have HB6 := Lib.hid b6s
  have HB7 := Lib.hid b7s
  clear hD hT b6 b7 hDs hTs b6s b7s
  go_wp2_with fail
  generalize w2.setCell ⟨w.heap.size + 1, 2, none⟩ (.bool gone) = W2 at *
  refine HU.out.mono ?_
  rintro e w3 ⟨rfl, hD, hT3⟩
  have hT := HT.out.trans hT3
  have b6 := (hT3.block w.heap.size (Array.getElem?_eq_some_iff.1 HB6.out).1 (by omega) (by omega)).trans HB6.out
  have b7 := (hT3.block (w.heap.size + 1) (Array.getElem?_eq_some_iff.1 HB7.out).1 (by omega) (by omega)).trans HB7.out
  clear hT3 HU HD HT HB6 HB7 y2 f2
  have x0 := hD.c0
  have HX3 := Lib.hid (pT_any 1024 (by omega) (by omega) hD.drew.rd)
  rw [E5.out, HKX.out] at HX3
  have HD := Lib.hid hD
  have HT := Lib.hid hT
  have HB6 := Lib.hid b6
  have HB7 := Lib.hid b7
  have z7 := (Array.getElem?_eq_some_iff.1 b7).1
  clear hD hT b6 b7
  have gn0 : (0 : Int) ≤ (n : Int) := by omega
  have gn1 : (n : Int) ≤ (last.size : Int) := by omega
  have hn7 : ¬ w.heap.size + 1 = d := by omega
  have hq1 : ¬ 9223372036854775807 < (last.extract 0 n).size + kx.size := by rw [ByteArray.size_extract]; omega
  have hq2 : ¬ 9223372036854775807 < min n last.size + kx.size := by omega
  have hq5 : ¬ 9223372036854775807 < n + kx.size := by omega
  go_upto_region 5 with fail
  go_cut [8] (fun s8 wx => s8 = .int .i64 (n : Int) ∧ Dg wx d g A c l p4 e4 w3b ∧ Two g d w wx ∧ wx.heap[w.heap.size]? = some (.cells #[.string ⟨#[]⟩, .string ⟨#[]⟩, .bool false, .int .i64 0] 40 (0, 0)) ∧ wx.heap[w.heap.size + 1]? = some (.cells #[.string key, .string ⟨#[]⟩, .bool gone, .int .i64 rt] 40 (0, 0)))
  case first =>
    go_region_held3 (fun w' => w'.cell? ⟨d, 0, none⟩ = some (.pointer (some ⟨g, 0, none⟩))) (first | exact x0 | exact x4 | go_keep)
      (first
        | (go_at_call 75; refine HX3.out.mono ?_; rintro e w4 ⟨rfl, hr4, hg4⟩; have hD := HD.out.drew.read hr4 hg4; have x4 := hD.c0; have hT := (HT.out.trans (Two.of_below (g := g) (d := d) ((Below.refl w3.heap.size w3).drew))).trans (Two.of_grown (d := d) hg4); have b6 := (hg4.block w.heap.size (Array.getElem?_eq_some_iff.1 HB6.out).1 (fun e => by injection e with e; omega)).trans HB6.out; have b7 := (hg4.block (w.heap.size + 1) (Array.getElem?_eq_some_iff.1 HB7.out).1 (fun e => by injection e with e; omega)).trans HB7.out; have y0 : w4.cell? ⟨w.heap.size + 1, 0, none⟩ = some (.string ⟨#[]⟩) := cell_of_row w4 _ 0 _ _ _ b7; have f0 : w4.frozen? ⟨w.heap.size + 1, 0, none⟩ = false := frozen_of_row w4 _ 0 _ _ b7))
    all_goals
      go_wp2_with fail
      go_meet
      rw [HKA.out]
      have hz6 : w.heap.size + 1 < w4.heap.size := (Array.getElem?_eq_some_iff.1 b7).1
      exact ⟨rfl, hD.set (b := w.heap.size + 1) (by omega) 0 _, hT.new (i := 0) (b := w.heap.size + 1) _ (by omega), ((grown_set w4 (w.heap.size + 1) 0 _).block w.heap.size (by omega) (fun e => by injection e with e; omega)).trans b6, by rw [heap_setCell_same w4 _ 0 _ _ _ b7]; rfl⟩
  case rest =>
    obtain ⟨rfl, hD, hT, b6, b7⟩ := hcut
    have y0 : wc.cell? ⟨w.heap.size + 1, 0, none⟩ = some (.string key) := cell_of_row wc _ 0 _ _ _ b7
    clear x0 HX3 HD HT HB6 HB7 hq1 hq2 hq5
    have HMU : Hid (∀ ok k, Calls Try.prog 34 #[.pointer (some ⟨d, 0, none⟩), .bool ok] (wc.drewN k) fun e w' => e = .returned (.tuple #[]) ∧ Dg w' d g A c l p4 e4 (w3b || !ok) ∧ Two g d (wc.drewN k) w') := fun ok k => must_any d g c p4 e4 w3b ok A l (wc.drewN k) (hD.drewN k)
    have HT := Lib.hid hT
    have HB6 := Lib.hid b6
    have HB7 := Lib.hid b7
    clear hD hT b6 b7
    go_wp2_with fail
    refine (HCO.out _).mono ?_
    rintro e w5 ⟨rfl, k5, rfl⟩
    go_wp2_with fail
    refine (HMU.out _ k5).mono ?_
    rintro e w6 ⟨rfl, hD, hT6⟩
    have hT : Two g d w w6 := (HT.out.trans (Two.of_below (g := g) (d := d) (below_draws (Below.refl wc.heap.size wc) k5))).trans hT6
    have b6 := (hT6.block w.heap.size (Array.getElem?_eq_some_iff.1 HB6.out).1 (by omega) (by omega)).trans HB6.out
    have b7 := (hT6.block (w.heap.size + 1) (Array.getElem?_eq_some_iff.1 HB7.out).1 (by omega) (by omega)).trans HB7.out
    clear hT6 HMU HT HB6 HB7 y0 HCO
    have z7 := (Array.getElem?_eq_some_iff.1 b7).1
    cases gone with
    | true =>
      have e0 : w6.cell? ⟨w.heap.size + 1, 0, none⟩ = some (.string key) := cell_of_row w6 _ 0 _ _ _ b7
      have e1 : w6.cell? ⟨w.heap.size + 1, 1, none⟩ = some (.string ⟨#[]⟩) := cell_of_row w6 _ 1 _ _ _ b7
      have e2 : w6.cell? ⟨w.heap.size + 1, 2, none⟩ = some (.bool true) := cell_of_row w6 _ 2 _ _ _ b7
      have e3 : w6.cell? ⟨w.heap.size + 1, 3, none⟩ = some (.int .i64 rt) := cell_of_row w6 _ 3 _ _ _ b7
      have d0 : w6.cell? ⟨w.heap.size, 0, none⟩ = some (.string ⟨#[]⟩) := cell_of_row w6 _ 0 _ _ _ b6
      have h0 : w6.frozen? ⟨w.heap.size, 0, none⟩ = false := frozen_of_row w6 _ 0 _ _ b6
      have d1 : w6.cell? ⟨w.heap.size, 1, none⟩ = some (.string ⟨#[]⟩) := cell_of_row w6 _ 1 _ _ _ b6
      have h1 : w6.frozen? ⟨w.heap.size, 1, none⟩ = false := frozen_of_row w6 _ 1 _ _ b6
      have d2 : w6.cell? ⟨w.heap.size, 2, none⟩ = some (.bool false) := cell_of_row w6 _ 2 _ _ _ b6
      have h2 : w6.frozen? ⟨w.heap.size, 2, none⟩ = false := frozen_of_row w6 _ 2 _ _ b6
      have d3 : w6.cell? ⟨w.heap.size, 3, none⟩ = some (.int .i64 0) := cell_of_row w6 _ 3 _ _ _ b6
      have h3 : w6.frozen? ⟨w.heap.size, 3, none⟩ = false := frozen_of_row w6 _ 3 _ _ b6
      have HD := Lib.hid hD
      have HT := Lib.hid hT
      clear hD hT b6 b7 E7 E1 E3 E4 E5
      go_wp2_with fail
      refine bodyPost_ret (v := .agg #[.string key, .string ⟨#[]⟩, .bool true, .int .i64 rt]) (by simp [results, Try.results60, go_sem, d0, d1, d2, d3]) rfl ?_
      refine HX.out ⟨key, ⟨#[]⟩, true, rt⟩ _ _ _ _ hti hks (HT1.out (by trivial)) ?_ ?_
      · exact ((((HD.out.set (b := w.heap.size) (by omega) 0 _).set (b := w.heap.size) (by omega) 1 _).set (b := w.heap.size) (by omega) 2 _).set (b := w.heap.size) (by omega) 3 _)
      · exact ((((HT.out.new (b := w.heap.size) _ (Nat.le_refl _)).new (b := w.heap.size) _ (Nat.le_refl _)).new (b := w.heap.size) _ (Nat.le_refl _)).new (b := w.heap.size) _ (Nat.le_refl _))
    | false =>
      have x0 := hD.c0
      have y2 : w6.cell? ⟨w.heap.size + 1, 2, none⟩ = some (.bool false) := cell_of_row w6 _ 2 _ _ _ b7
      have HX3 := Lib.hid (pT_any 1024 (by omega) (by omega) hD.rd)
      rw [E7.out, HVX.out] at HX3
      have HD := Lib.hid hD
      have HT := Lib.hid hT
      have HB6 := Lib.hid b6
      have HB7 := Lib.hid b7
      clear hD hT b6 b7 E7
      go_wp2_with fail
      refine HX3.out.mono ?_
      rintro e w7 ⟨rfl, hr7, hg7⟩
      have hD := HD.out.read hr7 hg7
      have hT := HT.out.trans (Two.of_grown (d := d) hg7)
      have b6 := (hg7.block w.heap.size (Array.getElem?_eq_some_iff.1 HB6.out).1 (fun e => by injection e with e; omega)).trans HB6.out
      have b7 := (hg7.block (w.heap.size + 1) (Array.getElem?_eq_some_iff.1 HB7.out).1 (fun e => by injection e with e; omega)).trans HB7.out
      clear hr7 hg7 HX3 x0 HD HT HB6 HB7 y2
      have hz6 : w.heap.size + 1 < w7.heap.size := (Array.getElem?_eq_some_iff.1 b7).1
      have e0 : w7.cell? ⟨w.heap.size + 1, 0, none⟩ = some (.string key) := cell_of_row w7 _ 0 _ _ _ b7
      have e1 : w7.cell? ⟨w.heap.size + 1, 1, none⟩ = some (.string ⟨#[]⟩) := cell_of_row w7 _ 1 _ _ _ b7
      have e2 : w7.cell? ⟨w.heap.size + 1, 2, none⟩ = some (.bool false) := cell_of_row w7 _ 2 _ _ _ b7
      have e3 : w7.cell? ⟨w.heap.size + 1, 3, none⟩ = some (.int .i64 rt) := cell_of_row w7 _ 3 _ _ _ b7
      have f1 : w7.frozen? ⟨w.heap.size + 1, 1, none⟩ = false := frozen_of_row w7 _ 1 _ _ b7
      have d0 : w7.cell? ⟨w.heap.size, 0, none⟩ = some (.string ⟨#[]⟩) := cell_of_row w7 _ 0 _ _ _ b6
      have h0 : w7.frozen? ⟨w.heap.size, 0, none⟩ = false := frozen_of_row w7 _ 0 _ _ b6
      have d1 : w7.cell? ⟨w.heap.size, 1, none⟩ = some (.string ⟨#[]⟩) := cell_of_row w7 _ 1 _ _ _ b6
      have h1 : w7.frozen? ⟨w.heap.size, 1, none⟩ = false := frozen_of_row w7 _ 1 _ _ b6
      have d2 : w7.cell? ⟨w.heap.size, 2, none⟩ = some (.bool false) := cell_of_row w7 _ 2 _ _ _ b6
      have h2 : w7.frozen? ⟨w.heap.size, 2, none⟩ = false := frozen_of_row w7 _ 2 _ _ b6
      have d3 : w7.cell? ⟨w.heap.size, 3, none⟩ = some (.int .i64 0) := cell_of_row w7 _ 3 _ _ _ b6
      have h3 : w7.frozen? ⟨w.heap.size, 3, none⟩ = false := frozen_of_row w7 _ 3 _ _ b6
      have HD := Lib.hid (hD.set (b := w.heap.size + 1) (by omega) 1 (.string value))
      have HT := Lib.hid (hT.new (i := 1) (b := w.heap.size + 1) (.string value) (by omega))
      clear hD hT b6 b7
      go_wp2_with fail
      refine bodyPost_ret (v := .agg #[.string key, .string value, .bool false, .int .i64 rt]) (by simp [results, Try.results60, go_sem, d0, d1, d2, d3]) rfl ?_
      refine HX.out ⟨key, value, false, rt⟩ _ _ _ _ hti hks (HT2.out (by trivial)) ?_ ?_
      · exact ((((HD.out.set (b := w.heap.size) (by omega) 0 _).set (b := w.heap.size) (by omega) 1 _).set (b := w.heap.size) (by omega) 2 _).set (b := w.heap.size) (by omega) 3 _)
      · exact ((((HT.out.new (b := w.heap.size) _ (Nat.le_refl _)).new (b := w.heap.size) _ (Nat.le_refl _)).new (b := w.heap.size) _ (Nat.le_refl _)).new (b := w.heap.size) _ (Nat.le_refl _))
end Go.Proofs.Ytniopekkfnkipaa
namespace Go.Proofs.Ytniopekkfnkipaa
open Go.RowKit
set_option linter.unusedVariables false
set_option linter.unusedSimpArgs false

/-- the records L can be read from p to q -/
structure RecsAt (l : List UInt8) (time : Int) (L : List Rec) (p q : Nat) : Prop where
  at_ : ∃ P : Nat → Nat, P 0 = p ∧ P L.length = q ∧ ∀ k, k < L.length → RecAt l time (prevKey L k) (P k) (L.getD k default) (P (k + 1))
theorem prevKey_snoc (L : List Rec) (r : Rec) (k : Nat) (h : k ≤ L.length) : prevKey (L ++ [r]) k = prevKey L k := by
  cases k with
  | zero => rfl
  | succ j =>
    show ((L ++ [r]).getD j default).key = (L.getD j default).key
    rw [List.getD_eq_getElem?_getD, List.getD_eq_getElem?_getD, List.getElem?_append_left (by omega)]
theorem prevKey_last (L : List Rec) (r : Rec) : prevKey (L ++ [r]) (L.length + 1) = r.key := by
  show ((L ++ [r]).getD L.length default).key = r.key
  rw [List.getD_eq_getElem?_getD, List.getElem?_append_right (Nat.le_refl _)]
  simp
theorem RecsAt.nil {l : List UInt8} {time : Int} {p : Nat} : RecsAt l time [] p p := ⟨fun _ => p, rfl, rfl, fun k hk => absurd hk (by simp)⟩
theorem RecsAt.snoc {l : List UInt8} {time : Int} {L : List Rec} {p q q' : Nat} {r : Rec} (h : RecsAt l time L p q) (hr : RecAt l time (prevKey L L.length) q r q') : RecsAt l time (L ++ [r]) p q' := by
  obtain ⟨P, h1, h2, h3⟩ := h.at_
  refine ⟨fun j => if j ≤ L.length then P j else q', ?_, ?_, ?_⟩
  · show (if 0 ≤ L.length then P 0 else q') = p
    rw [if_pos (Nat.zero_le _), h1]
  · show (if (L ++ [r]).length ≤ L.length then _ else q') = q'
    rw [if_neg (by simp)]
  · intro k hk
    have hk2 : k ≤ L.length := by simp at hk; omega
    show RecAt l time (prevKey (L ++ [r]) k) (if k ≤ L.length then P k else q') ((L ++ [r]).getD k default) (if k + 1 ≤ L.length then P (k + 1) else q')
    rw [if_pos hk2, prevKey_snoc L r k hk2]
    rcases Nat.lt_or_ge k L.length with g | g
    · rw [if_pos (by omega), List.getD_eq_getElem?_getD, List.getElem?_append_left g, ← List.getD_eq_getElem?_getD]
      exact h3 k g
    · obtain rfl : k = L.length := by omega
      rw [if_neg (by omega), List.getD_eq_getElem?_getD, List.getElem?_append_right (Nat.le_refl _), h2]
      simpa using hr

set_option maxRecDepth 100000 in
set_option maxHeartbeats 4000000 in
theorem drecs_any (d g c p er : Nat) (wr : Bool) (A : Option Addr) (l : List UInt8) (time : Int) (w : World) (h : Dg w d g A c l p er wr) (t3 : 0 ≤ time) (t4 : time ≤ 1099511627776) :
    Calls Try.prog 37 #[.pointer (some ⟨d, 0, none⟩), .int .i64 time] w fun e w' => ∃ L A' c' q er' wr', e = .returned (.slice A' L.length c') ∧ L.length ≤ 64 ∧ L.length ≤ c' ∧ c' ≤ maxLen ∧ Rcs w' w'.heap.size A' L.length L ∧ (∀ p, A' = some p → w.heap.size ≤ p.block) ∧
      (er' = 0 → wr' = false → er = 0 ∧ wr = false ∧ ((∀ r ∈ L, 0 ≤ r.time) → ∃ p1, dUint l p = .ok (.int .u64 (L.length : Int)) p1 ∧ RecsAt l time L p1 q)) ∧ Dg w' d g A c l q er' wr' ∧ Two g d w w' := by
  obtain ⟨X, hX⟩ : ∃ X : Ending → World → Prop, (fun (e : Ending) (w' : World) => ∃ L A' c' q er' wr', e = .returned (.slice A' L.length c') ∧ L.length ≤ 64 ∧ L.length ≤ c' ∧ c' ≤ maxLen ∧ Rcs w' w'.heap.size A' L.length L ∧ (∀ p, A' = some p → w.heap.size ≤ p.block) ∧
      (er' = 0 → wr' = false → er = 0 ∧ wr = false ∧ ((∀ r ∈ L, 0 ≤ r.time) → ∃ p1, dUint l p = .ok (.int .u64 (L.length : Int)) p1 ∧ RecsAt l time L p1 q)) ∧ Dg w' d g A c l q er' wr' ∧ Two g d w w') = X := ⟨_, rfl⟩
  obtain ⟨n, hN⟩ : ∃ n, upV l p er 64 = n := ⟨_, rfl⟩
  have hn2 : n ≤ 64 := by rw [← hN]; exact upV_le _ _ _ _
  obtain ⟨p1, er1, hU1⟩ : ∃ p1 er1, (uR l p er).2 = (p1, er1) := ⟨_, _, rfl⟩
  obtain ⟨wr1, hW1⟩ : ∃ wr1, (wr || upW l p er 64) = wr1 := ⟨_, rfl⟩
  have HSND : Hid (er1 = 0 → wr1 = false → er = 0 ∧ wr = false ∧ dUint l p = .ok (.int .u64 (n : Int)) p1) := fun a b => by
    obtain ⟨u, hu⟩ : ∃ u, (uR l p er).1 = u := ⟨_, rfl⟩
    have hu2 : uR l p er = (u, p1, 0) := by rw [← hu, ← a, ← hU1]
    obtain ⟨k0, k1⟩ := uR_ok hu2
    rw [← hW1] at b
    simp only [Bool.or_eq_false_iff] at b
    refine ⟨k0, b.1, ?_⟩
    have b2 := b.2
    unfold upW at b2
    rw [hu] at b2
    have b3 : ¬ 64 < u := by simpa using b2
    unfold upV at hN
    rw [hu, if_neg b3] at hN
    rw [← hN]; exact k1
  have HX : Hid (∀ (L : List Rec) A' c' q er' wr' w', L.length = n → L.length ≤ c' → c' ≤ maxLen → Rcs w' w'.heap.size A' L.length L → (∀ p, A' = some p → w.heap.size ≤ p.block) → (er' = 0 → wr' = false → er1 = 0 ∧ wr1 = false ∧ ((∀ r ∈ L, 0 ≤ r.time) → RecsAt l time L p1 q)) → Dg w' d g A c l q er' wr' → Two g d w w' → X (.returned (.slice A' n c')) w') := fun L A' c' q er' wr' w' a0 a1 a2 a3 a4 a5 a6 a7 => by
    rw [← hX]
    refine ⟨L, A', c', q, er', wr', by rw [a0], by omega, a1, a2, a3, a4, fun x y => ?_, a6, a7⟩
    obtain ⟨b1, b2, b3⟩ := a5 x y
    obtain ⟨c1, c2, c3⟩ := HSND.out b1 b2
    exact ⟨c1, c2, fun z => ⟨p1, by rw [a0]; exact c3, b3 z⟩⟩
  rw [hX]
  clear hX
  obtain ⟨j0, qj0, qy0, qy1, qy2⟩ := info_parts zero_rec
  have hdl := h.dlt
  have hgl := h.lt
  have HU := Lib.hid (upTo_any d g c p er 64 wr A l w h (by omega))
  rw [hN, hU1, hW1] at HU
  have HR : Hid (∀ W pk q er wr, Dg W d g A c l q er wr → ByteArray.size pk ≤ 1048576 → Calls Try.prog 60 #[.pointer (some ⟨d, 0, none⟩), .int .i64 time, .string pk] W fun e w' => ∃ r q' er' wr', e = .returned (.agg (Rec.cells r).toArray) ∧ i64_ r.time ∧ r.key.size ≤ pk.size + 1024 ∧ (er' = 0 → wr' = false → er = 0 ∧ wr = false ∧ (0 ≤ r.time → RecAt l time pk q r q')) ∧ Dg w' d g A c l q' er' wr' ∧ Two g d W w') := fun W pk q er wr hW hk => drec_any d g c q er wr A l time pk W hW t3 t4 hk
  clear h hN hU1 hW1 HSND
  go_enter Try.func37, Try.ntmps37
  go_wp2_with fail
  refine HU.out.mono ?_
  rintro e w1 ⟨rfl, hD1, hT1⟩
  clear HU
  go_wp2_with fail
  go_loopw [5, 6, 10] (fun v s i wx => ∃ (L : List Rec) (q er' : Nat) (wr' : Bool), L.length ≤ n ∧ i = .int .i64 (L.length : Int) ∧ s = .string (prevKey L L.length) ∧ (prevKey L L.length).size ≤ 1024 * L.length ∧ (∀ r ∈ L, i64_ r.time) ∧ (er' = 0 → wr' = false → er1 = 0 ∧ wr1 = false ∧ ((∀ r ∈ L, 0 ≤ r.time) → RecsAt l time L p1 q)) ∧ wx.ownsRow w.heap.size 40 4 v L.length (rcells L) ∧ Dg wx d g A c l q er' wr' ∧ Two g d w wx) (fun _ _ i _ => n - (intOf i).toNat)
  case atStart => exact ⟨[], p1, er1, wr1, by simp, rfl, rfl, by show (0 : Nat) ≤ _; omega, by simp, fun a b => ⟨a, b, fun _ => RecsAt.nil⟩, World.ownsRow_nil _ _ _ _, hD1, hT1⟩
  case round =>
    obtain ⟨L, q, er', wr', hk, rfl, rfl, hps, hok, hsn, hown, hD, hT⟩ := hrel
    have zr := hT.size
    have HSN := Lib.hid hsn
    have HOK := Lib.hid hok
    clear hsn hok
    by_cases hlt : L.length < n
    · have HRk := Lib.hid (HR.out _ _ q er' wr' hD (by omega : (prevKey L L.length).size ≤ 1048576))
      obtain ⟨pk, hpk⟩ : ∃ pk, prevKey L L.length = pk := ⟨_, rfl⟩
      have HPK := Lib.hid hpk
      rw [hpk] at HRk hps
      rw [hpk]
      obtain ⟨k, hkk⟩ : ∃ k, L.length = k := ⟨_, rfl⟩
      have HKK := Lib.hid hkk
      rw [hkk] at hps hlt hown
      rw [hkk]
      have HOWN := Lib.hid hown
      clear hown hD hpk hk hkk
      go_wp2_with fail
      refine HRk.out.mono ?_
      rintro e w2 ⟨r, q2, er2, wr2, rfl, hri, hrk, hrs, hD2, hT2⟩
      obtain ⟨key, value, gone, rt⟩ := r
      simp only [Rec.cells] at *
      have HRI := Lib.hid hri
      have HRS := Lib.hid hrs
      clear hri hrs
      have hown2 := (row_two HOWN.out hT2 (by omega) hdl)
      have hT2' := hT.trans hT2
      have z2 := hT2.size
      have hown3 := (hown2.alloc (.cells #[.string key, .string value, .bool gone, .int .i64 rt] 40)).alloc (.cells #[.string key, .string value, .bool gone, .int .i64 rt] 40)
      have hD3 := (hD2.alloc (.cells #[.string key, .string value, .bool gone, .int .i64 rt] 40)).alloc (.cells #[.string key, .string value, .bool gone, .int .i64 rt] 40)
      have hT3 := hT2'.trans (Two.of_below (g := g) (d := d) (((Below.refl w2.heap.size w2).alloc (Nat.le_refl _) (.cells #[.string key, .string value, .bool gone, .int .i64 rt] 40)).alloc (by simp) (.cells #[.string key, .string value, .bool gone, .int .i64 rt] 40)))
      have hsz : ((w2.alloc (.cells #[.string key, .string value, .bool gone, .int .i64 rt] 40)).alloc (.cells #[.string key, .string value, .bool gone, .int .i64 rt] 40)).heap.size = w2.heap.size + 2 := by simp
      have HSZ := Lib.hid hsz
      have hnb : ∀ j u, [Value.string key, .string value, .bool gone, .int .i64 rt][j]? = some u → ((w2.alloc (.cells #[.string key, .string value, .bool gone, .int .i64 rt] 40)).alloc (.cells #[.string key, .string value, .bool gone, .int .i64 rt] 40)).cell? ((⟨w2.heap.size + 1, 0, none⟩ : Addr).add j) = some u := fun j u hj => by
        have := (Lies.of_new (w2.alloc (.cells #[.string key, .string value, .bool gone, .int .i64 rt] 40)) #[.string key, .string value, .bool gone, .int .i64 rt] 40).get j u hj
        obtain ⟨q, hq, _, hc⟩ := this
        injection hq with hq
        subst hq
        rw [show (w2.alloc (.cells #[.string key, .string value, .bool gone, .int .i64 rt] 40)).heap.size = w2.heap.size + 1 from by simp] at hc
        exact hc
      have HNB := Lib.hid hnb
      have HOWN3 := Lib.hid hown3
      have HD3 := Lib.hid hD3
      have HT3 := Lib.hid hT3
      have hkey : ((w2.alloc (.cells #[.string key, .string value, .bool gone, .int .i64 rt] 40)).alloc (.cells #[.string key, .string value, .bool gone, .int .i64 rt] 40)).heap[w2.heap.size]? = some (.cells #[.string key, .string value, .bool gone, .int .i64 rt] 40 (0, 0)) := by
        rw [← heap_alloc_new w2 (.cells #[.string key, .string value, .bool gone, .int .i64 rt] 40)]
        exact ((Below.refl (w2.alloc (.cells #[.string key, .string value, .bool gone, .int .i64 rt] 40)).heap.size _).alloc (Nat.le_refl _) _).block w2.heap.size (by simp)
      have HKEY := Lib.hid hkey
      have hownlt := World.ownsRow.lt hown2
      have HLT := Lib.hid hownlt
      clear hown2 hown3 hD3 hT3 hnb hkey hD2 hT2 hT2' HRk HOWN hsz hownlt
      go_wp2_with (at_builtin; refine wpList_append_own_at _ rfl (.tmp 16) (.tmp 18) 22 rfl w.heap.size 40 j0 _ 4 48 Try.underlying22 qj0 qy0 qy1 qy2 rfl (by decide) _ k (rcells L) rfl HOWN3.out ⟨w2.heap.size + 1, 0, none⟩ 1 1 [.string key, .string value, .bool gone, .int .i64 rt] rfl rfl HNB.out ?g1 ?g2 ?g3 ?g4 ?_)
      case g1 => intro u hu; simp at hu; rcases hu with rfl | rfl | rfl | rfl <;> rfl
      case g2 => unfold maxLen; omega
      case g3 => omega
      case g4 => rw [HSZ.out]; omega
      intro v4 w4 hown4 hg4 _ _
      have hk4 := (hg4.block w2.heap.size (by rw [HSZ.out]; omega) (fun e => by have := (HLT.out _ e.symm).2; omega)).trans HKEY.out
      have hD4 := HD3.out.grown hg4 (fun k hk => by have := (HLT.out k hk).1; omega)
      have hT4 := HT3.out.grow hg4 (fun k hk => (HLT.out k hk).1)
      have c0 : w4.cell? ⟨w2.heap.size, 0, none⟩ = some (.string key) := cell_of_row w4 _ 0 _ _ _ hk4
      clear hg4 hk4 HD3 HT3 HKEY HOWN3 HNB
      have HD4 := Lib.hid hD4
      have HT4 := Lib.hid hT4
      have HOWN4 := Lib.hid hown4
      clear hD4 hT4 hown4
      go_wp2
      go_roundw
      case rel =>
        have hl2 : (L ++ [(⟨key, value, gone, rt⟩ : Rec)]).length = k + 1 := by rw [List.length_append, HKK.out]; rfl
        have hpl : prevKey (L ++ [(⟨key, value, gone, rt⟩ : Rec)]) (k + 1) = key := by rw [← HKK.out]; exact prevKey_last L _
        refine ⟨L ++ [⟨key, value, gone, rt⟩], q2, er2, wr2, by rw [hl2]; omega, by rw [hl2]; go_num, by rw [hl2, hpl], by rw [hl2, hpl]; omega, ?_, ?_, ?_, HD4.out, HT4.out⟩
        · intro r hr
          rcases List.mem_append.1 hr with hr | hr
          · exact HOK.out r hr
          · rw [List.mem_singleton.1 hr]; exact HRI.out
        · intro a b
          obtain ⟨x1, x2, x3⟩ := HRS.out a b
          obtain ⟨y1, y2, y3⟩ := HSN.out x1 x2
          refine ⟨y1, y2, fun hz => ?_⟩
          refine (y3 fun r hr => hz r (List.mem_append_left _ hr)).snoc ?_
          rw [HPK.out]
          exact x3 (hz _ (List.mem_append_right _ (List.mem_singleton.2 rfl)))
        · rw [hl2, rcells_append]
          exact HOWN4.out
      case measure => simp [intOf]; omega
    · obtain hkn : L.length = n := by omega
      obtain ⟨A', c', rfl, h1, h2, h3, h4⟩ := Rcs.of_own hown rfl HOK.out
      have H3 := Lib.hid h3
      have H4 := Lib.hid h4
      have HD := Lib.hid hD
      have HKN := Lib.hid hkn
      have H1 := Lib.hid h1
      have h1' : n ≤ c' := by omega
      rw [hkn]
      clear h3 h4 hown hD hkn h1
      go_wp2_with fail
      exact HX.out L A' c' q er' wr' _ HKN.out H1.out h2 H3.out (fun p hp => by have := H4.out p hp; omega) HSN.out HD.out hT
end Go.Proofs.Ytniopekkfnkipaa
namespace Go.Proofs.Ytniopekkfnkipaa
open Go.RowKit
set_option linter.unusedVariables false
set_option linter.unusedSimpArgs false

/-- what upTo comes to: the number, where it then stands, its error, and whether it has met something wrong -/
structure UP (l : List UInt8) (p er : Nat) (wr : Bool) (most n q e : Nat) (wr' : Bool) : Prop where
  v : upV l p er most = n
  u : (uR l p er).2 = (q, e)
  w : (wr || upW l p er most) = wr'
theorem UP.ex (l : List UInt8) (p er : Nat) (wr : Bool) (most : Nat) : ∃ n q e wr', UP l p er wr most n q e wr' := ⟨_, _, _, _, rfl, rfl, rfl⟩
theorem UP.le {l : List UInt8} {p er : Nat} {wr : Bool} {most n q e : Nat} {wr' : Bool} (h : UP l p er wr most n q e wr') : n ≤ most := by rw [← h.v]; exact upV_le _ _ _ _
theorem UP.sound {l : List UInt8} {p er : Nat} {wr : Bool} {most n q e : Nat} {wr' : Bool} (h : UP l p er wr most n q e wr') (he : e = 0) (hw : wr' = false) : er = 0 ∧ wr = false ∧ dUint l p = .ok (.int .u64 (n : Int)) q := by
  obtain ⟨u, hu⟩ : ∃ u, (uR l p er).1 = u := ⟨_, rfl⟩
  have hu2 : uR l p er = (u, q, 0) := by rw [← hu, ← he, ← h.u]
  obtain ⟨k0, k1⟩ := uR_ok hu2
  have b := h.w
  rw [hw] at b
  simp only [Bool.or_eq_false_iff] at b
  refine ⟨k0, b.1, ?_⟩
  have b2 := b.2
  unfold upW at b2
  rw [hu] at b2
  have b3 : ¬ most < u := by simpa using b2
  have hv := h.v
  unfold upV at hv
  rw [hu, if_neg b3] at hv
  rw [← hv]; exact k1
theorem upTo_up {d g c p er most n q e : Nat} {wr wr' : Bool} {A : Option Addr} {l : List UInt8} {w : World} (h : Dg w d g A c l p er wr) (hU : UP l p er wr most n q e wr') (hm : most < 9223372036854775808) :
    Calls Try.prog 36 #[.pointer (some ⟨d, 0, none⟩), .int .i64 (most : Int)] w fun e0 w' => e0 = .returned (.int .i64 (n : Int)) ∧ Dg w' d g A c l q e wr' ∧ Two g d w w' := by
  have := upTo_any d g c p er most wr A l w h hm
  rw [hU.v, hU.u, hU.w] at this
  exact this
/-- what the numbers ahead of a batch's records come to -/
structure HeadG (l : List UInt8) (mk : Bool) (b0 base pid epoch seq kind time q7 r7 : Nat) (w1 w7 : Bool) : Prop where
  at_ : ∃ q1 r1 q2 r2 q3 r3 w3 q4 r4 w4 q5 r5 w5 q6 r6 w6, byteR l 0 0 = (b0, q1, r1) ∧ (false || !((b0 : Int) == 1)) = w1 ∧ byteR l q1 r1 = (kind, q2, r2) ∧ UP l q2 r2 w1 1099511627776 base q3 r3 w3 ∧ UP l q3 r3 w3 1048576 pid q4 r4 w4 ∧
    (pid = 0 → epoch = 0 ∧ seq = 0 ∧ q6 = q4 ∧ r6 = r4 ∧ w6 = w4) ∧ (pid ≠ 0 → UP l q4 r4 w4 32767 epoch q5 r5 w5 ∧ (mk = true → seq = 0 ∧ q6 = q5 ∧ r6 = r5 ∧ w6 = w5) ∧ (mk = false → UP l q5 r5 w5 2147483647 seq q6 r6 w6)) ∧
    UP l q6 r6 w6 1099511627776 time q7 r7 w7

set_option maxRecDepth 100000 in
set_option maxHeartbeats 8000000 in
theorem dbatch_g (S : List Rec → Nat → Nat → Bool → Prop) (mk : Bool) (d g c b0 base pid epoch seq kind time q7 r7 : Nat) (w1b w7b : Bool) (A : Option Addr) (l : List UInt8) (w : World) (h : Dg w d g A c l 0 0 false) (hh : HeadG l mk b0 base pid epoch seq kind time q7 r7 w1b w7b) (hmk : (((kind : Int) == 2) || ((kind : Int) == 3)) = mk)
    (hL0 : mk = true → S [] q7 r7 w7b)
    (hL1 : mk = false → ∀ W, Dg W d g A c l q7 r7 w7b → Calls Try.prog 37 #[.pointer (some ⟨d, 0, none⟩), .int .i64 (time : Int)] W fun e w' => ∃ L A' c' q er' wr', e = .returned (.slice A' L.length c') ∧ L.length ≤ c' ∧ c' ≤ maxLen ∧ Rcs w' w'.heap.size A' L.length L ∧ (∀ p, A' = some p → W.heap.size ≤ p.block) ∧ S L q er' wr' ∧ Dg w' d g A c l q er' wr' ∧ Two g d W w') :
    Calls Try.prog 18 #[.pointer (some ⟨d, 0, none⟩)] w fun e w' => ∃ L A' c' q er' wr', e = .returned (.agg #[.int .i64 (base : Int), .int .i64 (pid : Int), .int .i64 (epoch : Int), .int .i64 (seq : Int), .int .i64 (kind : Int), .int .i64 (time : Int), .slice A' (List.length L) c']) ∧ L.length ≤ c' ∧ c' ≤ maxLen ∧ Rcs w' w'.heap.size A' L.length L ∧ (∀ p, A' = some p → w.heap.size ≤ p.block) ∧ S L q er' wr' ∧ Dg w' d g A c l q er' wr' ∧ Two g d w w' := by
  obtain ⟨q1, r1, q2, r2, q3, r3, w3b, q4, r4, w4b, q5, r5, w5b, q6, r6, w6b, e1, ew, e2, e3, e4, e5, e6, e7⟩ := hh.at_
  have hk1 := e3.le
  have hk2 := e4.le
  have hk3 := e7.le
  have E1 := Lib.hid e1
  have EW := Lib.hid ew
  have E2 := Lib.hid e2
  have E3 := Lib.hid e3
  have E4 := Lib.hid e4
  have E5 := Lib.hid e5
  have E6 := Lib.hid e6
  have E7 := Lib.hid e7
  have HL0 := Lib.hid hL0
  have HL1 := Lib.hid hL1
  clear e1 ew e2 e3 e4 e5 e6 e7 hh hL0 hL1
  have HMK : Hid (∀ (W : World) (b p e s t : Int) (A : Option Addr) (n c : Nat), Calls Try.prog 24 #[.agg #[.int .i64 b, .int .i64 p, .int .i64 e, .int .i64 s, .int .i64 (kind : Int), .int .i64 t, .slice A n c]] W fun e w' => e = .returned (.bool mk) ∧ Below W.heap.size W w') := fun W b p e s t A n c => by
    have := marker_any ⟨b, p, e, s, kind, t, List.replicate n default⟩ A c W
    unfold Bat.cells markB at this
    simp only [List.length_replicate] at this
    rw [hmk] at this
    exact this
  clear hmk
  have hdl := h.dlt
  have hgd := h.lt
  have hT := (Two.of_below (g := g) (d := d) ((((Below.refl w.heap.size w).alloc (Nat.le_refl _) (.cells #[.int .i64 0, .int .i64 0, .int .i64 0, .int .i64 0, .int .i64 0, .int .i64 0, .slice none 0 0] 24)).alloc (by simp) (.cells #[.int .i64 0, .int .i64 0, .int .i64 0, .int .i64 0, .int .i64 0, .int .i64 0, .slice none 0 0] 24))))
  have hD := (h.alloc (.cells #[.int .i64 0, .int .i64 0, .int .i64 0, .int .i64 0, .int .i64 0, .int .i64 0, .slice none 0 0] 24)).alloc (.cells #[.int .i64 0, .int .i64 0, .int .i64 0, .int .i64 0, .int .i64 0, .int .i64 0, .slice none 0 0] 24)
  have b6 : ((w.alloc (.cells #[.int .i64 0, .int .i64 0, .int .i64 0, .int .i64 0, .int .i64 0, .int .i64 0, .slice none 0 0] 24)).alloc (.cells #[.int .i64 0, .int .i64 0, .int .i64 0, .int .i64 0, .int .i64 0, .int .i64 0, .slice none 0 0] 24)).heap[w.heap.size]? = some (.cells #[.int .i64 0, .int .i64 0, .int .i64 0, .int .i64 0, .int .i64 0, .int .i64 0, .slice none 0 0] 24 (0, 0)) := by
    rw [← heap_alloc_new w (.cells #[.int .i64 0, .int .i64 0, .int .i64 0, .int .i64 0, .int .i64 0, .int .i64 0, .slice none 0 0] 24)]
    exact ((Below.refl (w.alloc (.cells #[.int .i64 0, .int .i64 0, .int .i64 0, .int .i64 0, .int .i64 0, .int .i64 0, .slice none 0 0] 24)).heap.size _).alloc (Nat.le_refl _) _).block w.heap.size (by simp)
  have b7 : ((w.alloc (.cells #[.int .i64 0, .int .i64 0, .int .i64 0, .int .i64 0, .int .i64 0, .int .i64 0, .slice none 0 0] 24)).alloc (.cells #[.int .i64 0, .int .i64 0, .int .i64 0, .int .i64 0, .int .i64 0, .int .i64 0, .slice none 0 0] 24)).heap[w.heap.size + 1]? = some (.cells #[.int .i64 0, .int .i64 0, .int .i64 0, .int .i64 0, .int .i64 0, .int .i64 0, .slice none 0 0] 24 (0, 0)) := by
    have h := heap_alloc_new (w.alloc (.cells #[.int .i64 0, .int .i64 0, .int .i64 0, .int .i64 0, .int .i64 0, .int .i64 0, .slice none 0 0] 24)) (.cells #[.int .i64 0, .int .i64 0, .int .i64 0, .int .i64 0, .int .i64 0, .int .i64 0, .slice none 0 0] 24)
    rwa [show (w.alloc (.cells #[.int .i64 0, .int .i64 0, .int .i64 0, .int .i64 0, .int .i64 0, .int .i64 0, .slice none 0 0] 24)).heap.size = w.heap.size + 1 from by simp] at h
  generalize hW0 : (w.alloc (.cells #[.int .i64 0, .int .i64 0, .int .i64 0, .int .i64 0, .int .i64 0, .int .i64 0, .slice none 0 0] 24)).alloc (.cells #[.int .i64 0, .int .i64 0, .int .i64 0, .int .i64 0, .int .i64 0, .int .i64 0, .slice none 0 0] 24) = W0 at *
  have HW0 := Lib.hid hW0
  have x0 := hD.c0
  have HI := Lib.hid (pY_any hD.rd)
  rw [E1.out] at HI
  have HD := Lib.hid hD
  have HT := Lib.hid hT
  have HB6 := Lib.hid b6
  have HB7 := Lib.hid b7
  clear h hD hT b6 b7 hW0
  go_enter Try.func18, Try.ntmps18
  go_upto_region 2 with fail
  rw [HW0.out]
  go_wp2_with fail
  refine HI.out.mono ?_
  rintro e w1 ⟨rfl, hr1, hg1⟩
  have hD := HD.out.read hr1 hg1
  have hT := HT.out.trans (Two.of_grown (d := d) hg1)
  have b6 := (hg1.block w.heap.size (Array.getElem?_eq_some_iff.1 HB6.out).1 (fun e => by injection e with e; omega)).trans HB6.out
  have b7 := (hg1.block (w.heap.size + 1) (Array.getElem?_eq_some_iff.1 HB7.out).1 (fun e => by injection e with e; omega)).trans HB7.out
  clear hr1 hg1 HI x0 HD HT HB6 HB7 HW0
  have HMU := Lib.hid (fun ok => must_any d g c q1 r1 false ok A l w1 hD)
  have HT := Lib.hid hT
  have HB6 := Lib.hid b6
  have HB7 := Lib.hid b7
  clear hD hT b6 b7
  go_wp2_with fail
  refine (HMU.out _).mono ?_
  rintro e w2 ⟨rfl, hD0, hT3⟩
  have hD : Dg w2 d g A c l q1 r1 w1b := by rw [← EW.out]; exact hD0
  clear hD0
  have hT := HT.out.trans hT3
  have b6 := (hT3.block w.heap.size (Array.getElem?_eq_some_iff.1 HB6.out).1 (by omega) (by omega)).trans HB6.out
  have b7 := (hT3.block (w.heap.size + 1) (Array.getElem?_eq_some_iff.1 HB7.out).1 (by omega) (by omega)).trans HB7.out
  clear hT3 HMU HT HB6 HB7
  have x0 := hD.c0
  have HI := Lib.hid (pY_any hD.rd)
  rw [E2.out] at HI
  have HD := Lib.hid hD
  have HT := Lib.hid hT
  have HB6 := Lib.hid b6
  have HB7 := Lib.hid b7
  clear hD hT b6 b7
  go_wp2_with fail
  refine HI.out.mono ?_
  rintro e w3 ⟨rfl, hr1, hg1⟩
  have hD := HD.out.read hr1 hg1
  have hT := HT.out.trans (Two.of_grown (d := d) hg1)
  have b6 := (hg1.block w.heap.size (Array.getElem?_eq_some_iff.1 HB6.out).1 (fun e => by injection e with e; omega)).trans HB6.out
  have b7 := (hg1.block (w.heap.size + 1) (Array.getElem?_eq_some_iff.1 HB7.out).1 (fun e => by injection e with e; omega)).trans HB7.out
  clear hr1 hg1 HI x0 HD HT HB6 HB7
  have y4 : w3.cell? ⟨w.heap.size + 1, 4, none⟩ = some (.int .i64 0) := cell_of_row w3 _ 4 _ _ _ b7
  have f4 : w3.frozen? ⟨w.heap.size + 1, 4, none⟩ = false := frozen_of_row w3 _ 4 _ _ b7
  have hDs := hD.set (b := w.heap.size + 1) (by omega) 4 (.int .i64 (kind : Int))
  have hTs := hT.new (i := 4) (b := w.heap.size + 1) (.int .i64 (kind : Int)) (by omega)
  have b6s : (w3.setCell ⟨w.heap.size + 1, 4, none⟩ (.int .i64 (kind : Int))).heap[w.heap.size]? = _ := ((grown_set w3 (w.heap.size + 1) 4 (.int .i64 (kind : Int))).block w.heap.size (Array.getElem?_eq_some_iff.1 b6).1 (fun e => by injection e with e; omega)).trans b6
  have b7s : (w3.setCell ⟨w.heap.size + 1, 4, none⟩ (.int .i64 (kind : Int))).heap[w.heap.size + 1]? = some (.cells #[.int .i64 0, .int .i64 0, .int .i64 0, .int .i64 0, .int .i64 (kind : Int), .int .i64 0, .slice none 0 0] 24 (0, 0)) := by rw [heap_setCell_same w3 _ 4 _ _ _ b7]; rfl
  have HD := Lib.hid hDs
  have HT := Lib.hid hTs
  have HB6 := Lib.hid b6s
  have HB7 := Lib.hid b7s
  clear hD hT b6 b7 hDs hTs b6s b7s
  have HU := Lib.hid (upTo_up HD.out E3.out (by omega))
  go_wp2_with fail
  generalize w3.setCell ⟨w.heap.size + 1, 4, none⟩ (.int .i64 (kind : Int)) = W3 at *
  refine HU.out.mono ?_
  rintro e w4 ⟨rfl, hD, hT3⟩
  have hT := HT.out.trans hT3
  have b6 := (hT3.block w.heap.size (Array.getElem?_eq_some_iff.1 HB6.out).1 (by omega) (by omega)).trans HB6.out
  have b7 := (hT3.block (w.heap.size + 1) (Array.getElem?_eq_some_iff.1 HB7.out).1 (by omega) (by omega)).trans HB7.out
  clear hT3 HU HD HT HB6 HB7 y4 f4
  have y0 : w4.cell? ⟨w.heap.size + 1, 0, none⟩ = some (.int .i64 0) := cell_of_row w4 _ 0 _ _ _ b7
  have f0 : w4.frozen? ⟨w.heap.size + 1, 0, none⟩ = false := frozen_of_row w4 _ 0 _ _ b7
  have hDs := hD.set (b := w.heap.size + 1) (by omega) 0 (.int .i64 (base : Int))
  have hTs := hT.new (i := 0) (b := w.heap.size + 1) (.int .i64 (base : Int)) (by omega)
  have b6s : (w4.setCell ⟨w.heap.size + 1, 0, none⟩ (.int .i64 (base : Int))).heap[w.heap.size]? = _ := ((grown_set w4 (w.heap.size + 1) 0 (.int .i64 (base : Int))).block w.heap.size (Array.getElem?_eq_some_iff.1 b6).1 (fun e => by injection e with e; omega)).trans b6
  have b7s : (w4.setCell ⟨w.heap.size + 1, 0, none⟩ (.int .i64 (base : Int))).heap[w.heap.size + 1]? = some (.cells #[.int .i64 (base : Int), .int .i64 0, .int .i64 0, .int .i64 0, .int .i64 (kind : Int), .int .i64 0, .slice none 0 0] 24 (0, 0)) := by rw [heap_setCell_same w4 _ 0 _ _ _ b7]; rfl
  have HD := Lib.hid hDs
  have HT := Lib.hid hTs
  have HB6 := Lib.hid b6s
  have HB7 := Lib.hid b7s
  clear hD hT b6 b7 hDs hTs b6s b7s
  have HU := Lib.hid (upTo_up HD.out E4.out (by omega))
  go_wp2_with fail
  generalize w4.setCell ⟨w.heap.size + 1, 0, none⟩ (.int .i64 (base : Int)) = W4 at *
  refine HU.out.mono ?_
  rintro e w5 ⟨rfl, hD, hT3⟩
  have hT := HT.out.trans hT3
  have b6 := (hT3.block w.heap.size (Array.getElem?_eq_some_iff.1 HB6.out).1 (by omega) (by omega)).trans HB6.out
  have b7 := (hT3.block (w.heap.size + 1) (Array.getElem?_eq_some_iff.1 HB7.out).1 (by omega) (by omega)).trans HB7.out
  clear hT3 HU HD HT HB6 HB7 y0 f0
  have y1 : w5.cell? ⟨w.heap.size + 1, 1, none⟩ = some (.int .i64 0) := cell_of_row w5 _ 1 _ _ _ b7
  have f1 : w5.frozen? ⟨w.heap.size + 1, 1, none⟩ = false := frozen_of_row w5 _ 1 _ _ b7
  have hDs := hD.set (b := w.heap.size + 1) (by omega) 1 (.int .i64 (pid : Int))
  have hTs := hT.new (i := 1) (b := w.heap.size + 1) (.int .i64 (pid : Int)) (by omega)
  have b6s : (w5.setCell ⟨w.heap.size + 1, 1, none⟩ (.int .i64 (pid : Int))).heap[w.heap.size]? = _ := ((grown_set w5 (w.heap.size + 1) 1 (.int .i64 (pid : Int))).block w.heap.size (Array.getElem?_eq_some_iff.1 b6).1 (fun e => by injection e with e; omega)).trans b6
  have b7s : (w5.setCell ⟨w.heap.size + 1, 1, none⟩ (.int .i64 (pid : Int))).heap[w.heap.size + 1]? = some (.cells #[.int .i64 (base : Int), .int .i64 (pid : Int), .int .i64 0, .int .i64 0, .int .i64 (kind : Int), .int .i64 0, .slice none 0 0] 24 (0, 0)) := by rw [heap_setCell_same w5 _ 1 _ _ _ b7]; rfl
  have HD := Lib.hid hDs
  have HT := Lib.hid hTs
  have HB6 := Lib.hid b6s
  have HB7 := Lib.hid b7s
  clear hD hT b6 b7 hDs hTs b6s b7s
  have y1s : (w5.setCell ⟨w.heap.size + 1, 1, none⟩ (.int .i64 (pid : Int))).cell? ⟨w.heap.size + 1, 1, none⟩ = some (.int .i64 (pid : Int)) := cell_of_row _ _ 1 _ _ _ HB7.out
  by_cases hp0 : pid = 0
  · obtain ⟨he, hs, hq6, hr6, hw6⟩ := E5.out hp0
    subst he hs hp0 hq6 hr6 hw6
    clear E5 E6
    have HU := Lib.hid (upTo_up HD.out E7.out (by omega))
    go_wp2_with fail
    generalize w5.setCell ⟨w.heap.size + 1, 1, none⟩ (.int .i64 ((0 : Nat) : Int)) = W5 at *
    refine HU.out.mono ?_
    rintro e w6 ⟨rfl, hD, hT3⟩
    have hT := HT.out.trans hT3
    have b6 := (hT3.block w.heap.size (Array.getElem?_eq_some_iff.1 HB6.out).1 (by omega) (by omega)).trans HB6.out
    have b7 := (hT3.block (w.heap.size + 1) (Array.getElem?_eq_some_iff.1 HB7.out).1 (by omega) (by omega)).trans HB7.out
    clear hT3 HU HD HT HB6 HB7 y1 f1
    have y5 : w6.cell? ⟨w.heap.size + 1, 5, none⟩ = some (.int .i64 0) := cell_of_row w6 _ 5 _ _ _ b7
    have f5 : w6.frozen? ⟨w.heap.size + 1, 5, none⟩ = false := frozen_of_row w6 _ 5 _ _ b7
    have hDs := hD.set (b := w.heap.size + 1) (by omega) 5 (.int .i64 (time : Int))
    have hTs := hT.new (i := 5) (b := w.heap.size + 1) (.int .i64 (time : Int)) (by omega)
    have b6s : (w6.setCell ⟨w.heap.size + 1, 5, none⟩ (.int .i64 (time : Int))).heap[w.heap.size]? = _ := ((grown_set w6 (w.heap.size + 1) 5 (.int .i64 (time : Int))).block w.heap.size (Array.getElem?_eq_some_iff.1 b6).1 (fun e => by injection e with e; omega)).trans b6
    have b7s : (w6.setCell ⟨w.heap.size + 1, 5, none⟩ (.int .i64 (time : Int))).heap[w.heap.size + 1]? = some (.cells #[.int .i64 (base : Int), .int .i64 ((0 : Nat) : Int), .int .i64 0, .int .i64 0, .int .i64 (kind : Int), .int .i64 (time : Int), .slice none 0 0] 24 (0, 0)) := by rw [heap_setCell_same w6 _ 5 _ _ _ b7]; rfl
    have HD := Lib.hid hDs
    have HT := Lib.hid hTs
    have HB6 := Lib.hid b6s
    have HB7 := Lib.hid b7s
    clear hD hT b6 b7 hDs hTs b6s b7s
    have m0 : (w6.setCell ⟨w.heap.size + 1, 5, none⟩ (.int .i64 (time : Int))).cell? ⟨w.heap.size + 1, 0, none⟩ = some (.int .i64 (base : Int)) := cell_of_row _ _ 0 _ _ _ HB7.out
    have m1 : (w6.setCell ⟨w.heap.size + 1, 5, none⟩ (.int .i64 (time : Int))).cell? ⟨w.heap.size + 1, 1, none⟩ = some (.int .i64 ((0 : Nat) : Int)) := cell_of_row _ _ 1 _ _ _ HB7.out
    have m2 : (w6.setCell ⟨w.heap.size + 1, 5, none⟩ (.int .i64 (time : Int))).cell? ⟨w.heap.size + 1, 2, none⟩ = some (.int .i64 0) := cell_of_row _ _ 2 _ _ _ HB7.out
    have m3 : (w6.setCell ⟨w.heap.size + 1, 5, none⟩ (.int .i64 (time : Int))).cell? ⟨w.heap.size + 1, 3, none⟩ = some (.int .i64 0) := cell_of_row _ _ 3 _ _ _ HB7.out
    have m4 : (w6.setCell ⟨w.heap.size + 1, 5, none⟩ (.int .i64 (time : Int))).cell? ⟨w.heap.size + 1, 4, none⟩ = some (.int .i64 (kind : Int)) := cell_of_row _ _ 4 _ _ _ HB7.out
    have m5 : (w6.setCell ⟨w.heap.size + 1, 5, none⟩ (.int .i64 (time : Int))).cell? ⟨w.heap.size + 1, 5, none⟩ = some (.int .i64 (time : Int)) := cell_of_row _ _ 5 _ _ _ HB7.out
    have m6 : (w6.setCell ⟨w.heap.size + 1, 5, none⟩ (.int .i64 (time : Int))).cell? ⟨w.heap.size + 1, 6, none⟩ = some (.slice none 0 0) := cell_of_row _ _ 6 _ _ _ HB7.out
    go_wp2_with fail
    generalize w6.setCell ⟨w.heap.size + 1, 5, none⟩ (.int .i64 (time : Int)) = W6 at *
    refine (HMK.out _ _ _ _ _ _ _ _ _).mono ?_
    rintro e w7 ⟨rfl, hbm⟩
    have hD := HD.out.below hbm HD.out.dlt
    have hT := HT.out.trans (Two.of_below (g := g) (d := d) hbm)
    have b6 := (hbm.block w.heap.size (Array.getElem?_eq_some_iff.1 HB6.out).1).trans HB6.out
    have b7 := (hbm.block (w.heap.size + 1) (Array.getElem?_eq_some_iff.1 HB7.out).1).trans HB7.out
    clear hbm HD HT HB6 HB7
    clear y5 f5 m0 m1 m2 m3 m4 m5 m6
    cases mk with
    | true =>
      have HC5 := Lib.hid (HL0.out (by first | rfl | trivial))
      clear HL0 HL1 HMK
      have m0 : w7.cell? ⟨w.heap.size + 1, 0, none⟩ = some (.int .i64 (base : Int)) := cell_of_row w7 _ 0 _ _ _ b7
      have m1 : w7.cell? ⟨w.heap.size + 1, 1, none⟩ = some (.int .i64 ((0 : Nat) : Int)) := cell_of_row w7 _ 1 _ _ _ b7
      have m2 : w7.cell? ⟨w.heap.size + 1, 2, none⟩ = some (.int .i64 0) := cell_of_row w7 _ 2 _ _ _ b7
      have m3 : w7.cell? ⟨w.heap.size + 1, 3, none⟩ = some (.int .i64 0) := cell_of_row w7 _ 3 _ _ _ b7
      have m4 : w7.cell? ⟨w.heap.size + 1, 4, none⟩ = some (.int .i64 (kind : Int)) := cell_of_row w7 _ 4 _ _ _ b7
      have m5 : w7.cell? ⟨w.heap.size + 1, 5, none⟩ = some (.int .i64 (time : Int)) := cell_of_row w7 _ 5 _ _ _ b7
      have m6 : w7.cell? ⟨w.heap.size + 1, 6, none⟩ = some (.slice none 0 0) := cell_of_row w7 _ 6 _ _ _ b7
      have d0 : w7.cell? ⟨w.heap.size, 0, none⟩ = some (.int .i64 0) := cell_of_row w7 _ 0 _ _ _ b6
      have h0 : w7.frozen? ⟨w.heap.size, 0, none⟩ = false := frozen_of_row w7 _ 0 _ _ b6
      have d1 : w7.cell? ⟨w.heap.size, 1, none⟩ = some (.int .i64 0) := cell_of_row w7 _ 1 _ _ _ b6
      have h1 : w7.frozen? ⟨w.heap.size, 1, none⟩ = false := frozen_of_row w7 _ 1 _ _ b6
      have d2 : w7.cell? ⟨w.heap.size, 2, none⟩ = some (.int .i64 0) := cell_of_row w7 _ 2 _ _ _ b6
      have h2 : w7.frozen? ⟨w.heap.size, 2, none⟩ = false := frozen_of_row w7 _ 2 _ _ b6
      have d3 : w7.cell? ⟨w.heap.size, 3, none⟩ = some (.int .i64 0) := cell_of_row w7 _ 3 _ _ _ b6
      have h3 : w7.frozen? ⟨w.heap.size, 3, none⟩ = false := frozen_of_row w7 _ 3 _ _ b6
      have d4 : w7.cell? ⟨w.heap.size, 4, none⟩ = some (.int .i64 0) := cell_of_row w7 _ 4 _ _ _ b6
      have h4 : w7.frozen? ⟨w.heap.size, 4, none⟩ = false := frozen_of_row w7 _ 4 _ _ b6
      have d5 : w7.cell? ⟨w.heap.size, 5, none⟩ = some (.int .i64 0) := cell_of_row w7 _ 5 _ _ _ b6
      have h5 : w7.frozen? ⟨w.heap.size, 5, none⟩ = false := frozen_of_row w7 _ 5 _ _ b6
      have d6 : w7.cell? ⟨w.heap.size, 6, none⟩ = some (.slice none 0 0) := cell_of_row w7 _ 6 _ _ _ b6
      have h6 : w7.frozen? ⟨w.heap.size, 6, none⟩ = false := frozen_of_row w7 _ 6 _ _ b6
      have z7 := (Array.getElem?_eq_some_iff.1 b7).1
      have HD := Lib.hid hD
      have HT := Lib.hid hT
      clear hD hT b6 b7
      have HC1 : Hid (([] : List Rec).length ≤ 0) := Nat.le_refl _
      have HC2 : Hid (0 ≤ maxLen) := Nat.zero_le _
      have HC3 : Hid (Rcs w7 w7.heap.size none ([] : List Rec).length []) := Rcs.nil_
      have HC4 : Hid (∀ p : Addr, (none : Option Addr) = some p → w.heap.size + 2 ≤ p.block) := fun p h => by cases h
      go_wp2_with fail
      refine bodyPost_ret (v := .agg #[.int .i64 (base : Int), .int .i64 ((0 : Nat) : Int), .int .i64 0, .int .i64 0, .int .i64 (kind : Int), .int .i64 (time : Int), .slice none 0 0]) (by simp [results, Try.results18, go_sem, d0, d1, d2, d3, d4, d5, d6]) rfl ?_
      refine ⟨[], _, _, _, _, _, rfl, HC1.out, HC2.out, ?_, fun p hp => by have := HC4.out p hp; omega, HC5.out, ?_, ?_⟩
      · refine Rcs.wider (B := w7.heap.size) ?_ (by simp)
        refine ⟨HC3.out.len, HC3.out.lies.far_ fun p hp i => ?_, HC3.out.ok⟩
        have hpb := HC4.out p hp
        have hpi := add_block p i
        have n0 : ¬ w.heap.size = (p.add i).block := by rw [hpi]; omega
        have n1 : ¬ w.heap.size + 1 = (p.add i).block := by rw [hpi]; omega
        simp only [World.cell?_setCell_far, ne_eq, n0, n1, not_false_eq_true]
      · exact (((((((HD.out.set (b := w.heap.size) (by omega) 0 _).set (b := w.heap.size) (by omega) 1 _).set (b := w.heap.size) (by omega) 2 _).set (b := w.heap.size) (by omega) 3 _).set (b := w.heap.size) (by omega) 4 _).set (b := w.heap.size) (by omega) 5 _).set (b := w.heap.size) (by omega) 6 _)
      · exact (((((((HT.out.new (b := w.heap.size) _ (Nat.le_refl _)).new (b := w.heap.size) _ (Nat.le_refl _)).new (b := w.heap.size) _ (Nat.le_refl _)).new (b := w.heap.size) _ (Nat.le_refl _)).new (b := w.heap.size) _ (Nat.le_refl _)).new (b := w.heap.size) _ (Nat.le_refl _)).new (b := w.heap.size) _ (Nat.le_refl _))
    | false =>
      have HR := Lib.hid (HL1.out (by first | rfl | trivial) _ hD)
      have m5 : w7.cell? ⟨w.heap.size + 1, 5, none⟩ = some (.int .i64 (time : Int)) := cell_of_row w7 _ 5 _ _ _ b7
      have HD := Lib.hid hD
      have HT := Lib.hid hT
      have HB6 := Lib.hid b6
      have HB7 := Lib.hid b7
      clear hD hT b6 b7
      go_wp2_with fail
      refine HR.out.mono ?_
      rintro e w8 ⟨L, A', c', q, er', wr', rfl, hc1, hc2, hc3, hc4, hc5, hD, hT3⟩
      have hT := HT.out.trans hT3
      have b6 := (hT3.block w.heap.size (Array.getElem?_eq_some_iff.1 HB6.out).1 (by omega) (by omega)).trans HB6.out
      have b7 := (hT3.block (w.heap.size + 1) (Array.getElem?_eq_some_iff.1 HB7.out).1 (by omega) (by omega)).trans HB7.out
      have z8 := (Array.getElem?_eq_some_iff.1 HB7.out).1
      have HC1 := Lib.hid hc1
      have HC2 := Lib.hid hc2
      have HC3 := Lib.hid hc3
      have HC5 := Lib.hid hc5
      have HC4 : Hid (∀ p : Addr, A' = some p → w.heap.size + 2 ≤ p.block) := fun p hp => by have := hc4 p hp; omega
      clear hT3 HR HD HT HB6 HB7 m5 hc1 hc2 hc3 hc4 hc5 HL0 HL1 HMK
      have m0 : w8.cell? ⟨w.heap.size + 1, 0, none⟩ = some (.int .i64 (base : Int)) := cell_of_row w8 _ 0 _ _ _ b7
      have m1 : w8.cell? ⟨w.heap.size + 1, 1, none⟩ = some (.int .i64 ((0 : Nat) : Int)) := cell_of_row w8 _ 1 _ _ _ b7
      have m2 : w8.cell? ⟨w.heap.size + 1, 2, none⟩ = some (.int .i64 0) := cell_of_row w8 _ 2 _ _ _ b7
      have m3 : w8.cell? ⟨w.heap.size + 1, 3, none⟩ = some (.int .i64 0) := cell_of_row w8 _ 3 _ _ _ b7
      have m4 : w8.cell? ⟨w.heap.size + 1, 4, none⟩ = some (.int .i64 (kind : Int)) := cell_of_row w8 _ 4 _ _ _ b7
      have m5 : w8.cell? ⟨w.heap.size + 1, 5, none⟩ = some (.int .i64 (time : Int)) := cell_of_row w8 _ 5 _ _ _ b7
      have m6 : w8.cell? ⟨w.heap.size + 1, 6, none⟩ = some (.slice none 0 0) := cell_of_row w8 _ 6 _ _ _ b7
      have f6 : w8.frozen? ⟨w.heap.size + 1, 6, none⟩ = false := frozen_of_row w8 _ 6 _ _ b7
      have d0 : w8.cell? ⟨w.heap.size, 0, none⟩ = some (.int .i64 0) := cell_of_row w8 _ 0 _ _ _ b6
      have h0 : w8.frozen? ⟨w.heap.size, 0, none⟩ = false := frozen_of_row w8 _ 0 _ _ b6
      have d1 : w8.cell? ⟨w.heap.size, 1, none⟩ = some (.int .i64 0) := cell_of_row w8 _ 1 _ _ _ b6
      have h1 : w8.frozen? ⟨w.heap.size, 1, none⟩ = false := frozen_of_row w8 _ 1 _ _ b6
      have d2 : w8.cell? ⟨w.heap.size, 2, none⟩ = some (.int .i64 0) := cell_of_row w8 _ 2 _ _ _ b6
      have h2 : w8.frozen? ⟨w.heap.size, 2, none⟩ = false := frozen_of_row w8 _ 2 _ _ b6
      have d3 : w8.cell? ⟨w.heap.size, 3, none⟩ = some (.int .i64 0) := cell_of_row w8 _ 3 _ _ _ b6
      have h3 : w8.frozen? ⟨w.heap.size, 3, none⟩ = false := frozen_of_row w8 _ 3 _ _ b6
      have d4 : w8.cell? ⟨w.heap.size, 4, none⟩ = some (.int .i64 0) := cell_of_row w8 _ 4 _ _ _ b6
      have h4 : w8.frozen? ⟨w.heap.size, 4, none⟩ = false := frozen_of_row w8 _ 4 _ _ b6
      have d5 : w8.cell? ⟨w.heap.size, 5, none⟩ = some (.int .i64 0) := cell_of_row w8 _ 5 _ _ _ b6
      have h5 : w8.frozen? ⟨w.heap.size, 5, none⟩ = false := frozen_of_row w8 _ 5 _ _ b6
      have d6 : w8.cell? ⟨w.heap.size, 6, none⟩ = some (.slice none 0 0) := cell_of_row w8 _ 6 _ _ _ b6
      have h6 : w8.frozen? ⟨w.heap.size, 6, none⟩ = false := frozen_of_row w8 _ 6 _ _ b6
      have z7 := (Array.getElem?_eq_some_iff.1 b7).1
      have HD := Lib.hid (hD.set (b := w.heap.size + 1) (by omega) 6 (.slice A' L.length c'))
      have HT := Lib.hid (hT.new (i := 6) (b := w.heap.size + 1) (.slice A' L.length c') (by omega))
      clear hD hT b6 b7
      go_wp2_with fail
      refine bodyPost_ret (v := .agg #[.int .i64 (base : Int), .int .i64 ((0 : Nat) : Int), .int .i64 0, .int .i64 0, .int .i64 (kind : Int), .int .i64 (time : Int), .slice A' L.length c']) (by simp [results, Try.results18, go_sem, d0, d1, d2, d3, d4, d5, d6]) rfl ?_
      refine ⟨L, _, _, _, _, _, rfl, HC1.out, HC2.out, ?_, fun p hp => by have := HC4.out p hp; omega, HC5.out, ?_, ?_⟩
      · refine Rcs.wider (B := w8.heap.size) ?_ (by simp)
        refine ⟨HC3.out.len, HC3.out.lies.far_ fun p hp i => ?_, HC3.out.ok⟩
        have hpb := HC4.out p hp
        have hpi := add_block p i
        have n0 : ¬ w.heap.size = (p.add i).block := by rw [hpi]; omega
        have n1 : ¬ w.heap.size + 1 = (p.add i).block := by rw [hpi]; omega
        simp only [World.cell?_setCell_far, ne_eq, n0, n1, not_false_eq_true]
      · exact (((((((HD.out.set (b := w.heap.size) (by omega) 0 _).set (b := w.heap.size) (by omega) 1 _).set (b := w.heap.size) (by omega) 2 _).set (b := w.heap.size) (by omega) 3 _).set (b := w.heap.size) (by omega) 4 _).set (b := w.heap.size) (by omega) 5 _).set (b := w.heap.size) (by omega) 6 _)
      · exact (((((((HT.out.new (b := w.heap.size) _ (Nat.le_refl _)).new (b := w.heap.size) _ (Nat.le_refl _)).new (b := w.heap.size) _ (Nat.le_refl _)).new (b := w.heap.size) _ (Nat.le_refl _)).new (b := w.heap.size) _ (Nat.le_refl _)).new (b := w.heap.size) _ (Nat.le_refl _)).new (b := w.heap.size) _ (Nat.le_refl _))
  · obtain ⟨e5, e6a, e6b⟩ := E6.out hp0
    have hpne : ((pid : Int) != 0) = true := by rw [bne_iff_ne]; omega
    have E5 := Lib.hid e5
    have E6A := Lib.hid e6a
    have E6B := Lib.hid e6b
    clear e5 e6a e6b
    have HU := Lib.hid (upTo_up HD.out E5.out (by omega))
    go_wp2_with fail
    generalize w5.setCell ⟨w.heap.size + 1, 1, none⟩ (.int .i64 (pid : Int)) = W5 at *
    refine HU.out.mono ?_
    rintro e w6 ⟨rfl, hD, hT3⟩
    have hT := HT.out.trans hT3
    have b6 := (hT3.block w.heap.size (Array.getElem?_eq_some_iff.1 HB6.out).1 (by omega) (by omega)).trans HB6.out
    have b7 := (hT3.block (w.heap.size + 1) (Array.getElem?_eq_some_iff.1 HB7.out).1 (by omega) (by omega)).trans HB7.out
    clear hT3 HU HD HT HB6 HB7 y1 f1
    clear y1s
    have y2 : w6.cell? ⟨w.heap.size + 1, 2, none⟩ = some (.int .i64 0) := cell_of_row w6 _ 2 _ _ _ b7
    have f2 : w6.frozen? ⟨w.heap.size + 1, 2, none⟩ = false := frozen_of_row w6 _ 2 _ _ b7
    have hDs := hD.set (b := w.heap.size + 1) (by omega) 2 (.int .i64 (epoch : Int))
    have hTs := hT.new (i := 2) (b := w.heap.size + 1) (.int .i64 (epoch : Int)) (by omega)
    have b6s : (w6.setCell ⟨w.heap.size + 1, 2, none⟩ (.int .i64 (epoch : Int))).heap[w.heap.size]? = _ := ((grown_set w6 (w.heap.size + 1) 2 (.int .i64 (epoch : Int))).block w.heap.size (Array.getElem?_eq_some_iff.1 b6).1 (fun e => by injection e with e; omega)).trans b6
    have b7s : (w6.setCell ⟨w.heap.size + 1, 2, none⟩ (.int .i64 (epoch : Int))).heap[w.heap.size + 1]? = some (.cells #[.int .i64 (base : Int), .int .i64 (pid : Int), .int .i64 (epoch : Int), .int .i64 0, .int .i64 (kind : Int), .int .i64 0, .slice none 0 0] 24 (0, 0)) := by rw [heap_setCell_same w6 _ 2 _ _ _ b7]; rfl
    have HD := Lib.hid hDs
    have HT := Lib.hid hTs
    have HB6 := Lib.hid b6s
    have HB7 := Lib.hid b7s
    clear hD hT b6 b7 hDs hTs b6s b7s
    have m0 : (w6.setCell ⟨w.heap.size + 1, 2, none⟩ (.int .i64 (epoch : Int))).cell? ⟨w.heap.size + 1, 0, none⟩ = some (.int .i64 (base : Int)) := cell_of_row _ _ 0 _ _ _ HB7.out
    have m1 : (w6.setCell ⟨w.heap.size + 1, 2, none⟩ (.int .i64 (epoch : Int))).cell? ⟨w.heap.size + 1, 1, none⟩ = some (.int .i64 (pid : Int)) := cell_of_row _ _ 1 _ _ _ HB7.out
    have m2 : (w6.setCell ⟨w.heap.size + 1, 2, none⟩ (.int .i64 (epoch : Int))).cell? ⟨w.heap.size + 1, 2, none⟩ = some (.int .i64 (epoch : Int)) := cell_of_row _ _ 2 _ _ _ HB7.out
    have m3 : (w6.setCell ⟨w.heap.size + 1, 2, none⟩ (.int .i64 (epoch : Int))).cell? ⟨w.heap.size + 1, 3, none⟩ = some (.int .i64 0) := cell_of_row _ _ 3 _ _ _ HB7.out
    have m4 : (w6.setCell ⟨w.heap.size + 1, 2, none⟩ (.int .i64 (epoch : Int))).cell? ⟨w.heap.size + 1, 4, none⟩ = some (.int .i64 (kind : Int)) := cell_of_row _ _ 4 _ _ _ HB7.out
    have m5 : (w6.setCell ⟨w.heap.size + 1, 2, none⟩ (.int .i64 (epoch : Int))).cell? ⟨w.heap.size + 1, 5, none⟩ = some (.int .i64 0) := cell_of_row _ _ 5 _ _ _ HB7.out
    have m6 : (w6.setCell ⟨w.heap.size + 1, 2, none⟩ (.int .i64 (epoch : Int))).cell? ⟨w.heap.size + 1, 6, none⟩ = some (.slice none 0 0) := cell_of_row _ _ 6 _ _ _ HB7.out
    go_wp2_with fail
    generalize w6.setCell ⟨w.heap.size + 1, 2, none⟩ (.int .i64 (epoch : Int)) = W6 at *
    refine (HMK.out _ _ _ _ _ _ _ _ _).mono ?_
    rintro e w7 ⟨rfl, hbm⟩
    have hD := HD.out.below hbm HD.out.dlt
    have hT := HT.out.trans (Two.of_below (g := g) (d := d) hbm)
    have b6 := (hbm.block w.heap.size (Array.getElem?_eq_some_iff.1 HB6.out).1).trans HB6.out
    have b7 := (hbm.block (w.heap.size + 1) (Array.getElem?_eq_some_iff.1 HB7.out).1).trans HB7.out
    clear hbm HD HT HB6 HB7
    clear y2 f2 m0 m1 m2 m3 m4 m5 m6
    have HD := Lib.hid hD
    have HT := Lib.hid hT
    have HB6 := Lib.hid b6
    have HB7 := Lib.hid b7
    clear hD hT b6 b7
    by_cases hmt : mk = true
    · obtain ⟨hs, hq6, hr6, hw6⟩ := E6A.out hmt
      subst hs hmt hq6 hr6 hw6
      clear E6A E6B
      have HU := Lib.hid (upTo_up HD.out E7.out (by omega))
      go_wp2_with fail
      refine HU.out.mono ?_
      rintro e w8 ⟨rfl, hD, hT3⟩
      have hT := HT.out.trans hT3
      have b6 := (hT3.block w.heap.size (Array.getElem?_eq_some_iff.1 HB6.out).1 (by omega) (by omega)).trans HB6.out
      have b7 := (hT3.block (w.heap.size + 1) (Array.getElem?_eq_some_iff.1 HB7.out).1 (by omega) (by omega)).trans HB7.out
      clear hT3 HU HD HT HB6 HB7
      have y5 : w8.cell? ⟨w.heap.size + 1, 5, none⟩ = some (.int .i64 0) := cell_of_row w8 _ 5 _ _ _ b7
      have f5 : w8.frozen? ⟨w.heap.size + 1, 5, none⟩ = false := frozen_of_row w8 _ 5 _ _ b7
      have hDs := hD.set (b := w.heap.size + 1) (by omega) 5 (.int .i64 (time : Int))
      have hTs := hT.new (i := 5) (b := w.heap.size + 1) (.int .i64 (time : Int)) (by omega)
      have b6s : (w8.setCell ⟨w.heap.size + 1, 5, none⟩ (.int .i64 (time : Int))).heap[w.heap.size]? = _ := ((grown_set w8 (w.heap.size + 1) 5 (.int .i64 (time : Int))).block w.heap.size (Array.getElem?_eq_some_iff.1 b6).1 (fun e => by injection e with e; omega)).trans b6
      have b7s : (w8.setCell ⟨w.heap.size + 1, 5, none⟩ (.int .i64 (time : Int))).heap[w.heap.size + 1]? = some (.cells #[.int .i64 (base : Int), .int .i64 (pid : Int), .int .i64 (epoch : Int), .int .i64 0, .int .i64 (kind : Int), .int .i64 (time : Int), .slice none 0 0] 24 (0, 0)) := by rw [heap_setCell_same w8 _ 5 _ _ _ b7]; rfl
      have HD := Lib.hid hDs
      have HT := Lib.hid hTs
      have HB6 := Lib.hid b6s
      have HB7 := Lib.hid b7s
      clear hD hT b6 b7 hDs hTs b6s b7s
      have m0 : (w8.setCell ⟨w.heap.size + 1, 5, none⟩ (.int .i64 (time : Int))).cell? ⟨w.heap.size + 1, 0, none⟩ = some (.int .i64 (base : Int)) := cell_of_row _ _ 0 _ _ _ HB7.out
      have m1 : (w8.setCell ⟨w.heap.size + 1, 5, none⟩ (.int .i64 (time : Int))).cell? ⟨w.heap.size + 1, 1, none⟩ = some (.int .i64 (pid : Int)) := cell_of_row _ _ 1 _ _ _ HB7.out
      have m2 : (w8.setCell ⟨w.heap.size + 1, 5, none⟩ (.int .i64 (time : Int))).cell? ⟨w.heap.size + 1, 2, none⟩ = some (.int .i64 (epoch : Int)) := cell_of_row _ _ 2 _ _ _ HB7.out
      have m3 : (w8.setCell ⟨w.heap.size + 1, 5, none⟩ (.int .i64 (time : Int))).cell? ⟨w.heap.size + 1, 3, none⟩ = some (.int .i64 0) := cell_of_row _ _ 3 _ _ _ HB7.out
      have m4 : (w8.setCell ⟨w.heap.size + 1, 5, none⟩ (.int .i64 (time : Int))).cell? ⟨w.heap.size + 1, 4, none⟩ = some (.int .i64 (kind : Int)) := cell_of_row _ _ 4 _ _ _ HB7.out
      have m5 : (w8.setCell ⟨w.heap.size + 1, 5, none⟩ (.int .i64 (time : Int))).cell? ⟨w.heap.size + 1, 5, none⟩ = some (.int .i64 (time : Int)) := cell_of_row _ _ 5 _ _ _ HB7.out
      have m6 : (w8.setCell ⟨w.heap.size + 1, 5, none⟩ (.int .i64 (time : Int))).cell? ⟨w.heap.size + 1, 6, none⟩ = some (.slice none 0 0) := cell_of_row _ _ 6 _ _ _ HB7.out
      go_wp2_with fail
      generalize w8.setCell ⟨w.heap.size + 1, 5, none⟩ (.int .i64 (time : Int)) = W8 at *
      refine (HMK.out _ _ _ _ _ _ _ _ _).mono ?_
      rintro e w9 ⟨rfl, hbm⟩
      have hD := HD.out.below hbm HD.out.dlt
      have hT := HT.out.trans (Two.of_below (g := g) (d := d) hbm)
      have b6 := (hbm.block w.heap.size (Array.getElem?_eq_some_iff.1 HB6.out).1).trans HB6.out
      have b7 := (hbm.block (w.heap.size + 1) (Array.getElem?_eq_some_iff.1 HB7.out).1).trans HB7.out
      clear hbm HD HT HB6 HB7
      clear y5 f5 m0 m1 m2 m3 m4 m5 m6
      have HC5 := Lib.hid (HL0.out (by first | rfl | trivial))
      clear HL0 HL1 HMK
      have m0 : w9.cell? ⟨w.heap.size + 1, 0, none⟩ = some (.int .i64 (base : Int)) := cell_of_row w9 _ 0 _ _ _ b7
      have m1 : w9.cell? ⟨w.heap.size + 1, 1, none⟩ = some (.int .i64 (pid : Int)) := cell_of_row w9 _ 1 _ _ _ b7
      have m2 : w9.cell? ⟨w.heap.size + 1, 2, none⟩ = some (.int .i64 (epoch : Int)) := cell_of_row w9 _ 2 _ _ _ b7
      have m3 : w9.cell? ⟨w.heap.size + 1, 3, none⟩ = some (.int .i64 0) := cell_of_row w9 _ 3 _ _ _ b7
      have m4 : w9.cell? ⟨w.heap.size + 1, 4, none⟩ = some (.int .i64 (kind : Int)) := cell_of_row w9 _ 4 _ _ _ b7
      have m5 : w9.cell? ⟨w.heap.size + 1, 5, none⟩ = some (.int .i64 (time : Int)) := cell_of_row w9 _ 5 _ _ _ b7
      have m6 : w9.cell? ⟨w.heap.size + 1, 6, none⟩ = some (.slice none 0 0) := cell_of_row w9 _ 6 _ _ _ b7
      have d0 : w9.cell? ⟨w.heap.size, 0, none⟩ = some (.int .i64 0) := cell_of_row w9 _ 0 _ _ _ b6
      have h0 : w9.frozen? ⟨w.heap.size, 0, none⟩ = false := frozen_of_row w9 _ 0 _ _ b6
      have d1 : w9.cell? ⟨w.heap.size, 1, none⟩ = some (.int .i64 0) := cell_of_row w9 _ 1 _ _ _ b6
      have h1 : w9.frozen? ⟨w.heap.size, 1, none⟩ = false := frozen_of_row w9 _ 1 _ _ b6
      have d2 : w9.cell? ⟨w.heap.size, 2, none⟩ = some (.int .i64 0) := cell_of_row w9 _ 2 _ _ _ b6
      have h2 : w9.frozen? ⟨w.heap.size, 2, none⟩ = false := frozen_of_row w9 _ 2 _ _ b6
      have d3 : w9.cell? ⟨w.heap.size, 3, none⟩ = some (.int .i64 0) := cell_of_row w9 _ 3 _ _ _ b6
      have h3 : w9.frozen? ⟨w.heap.size, 3, none⟩ = false := frozen_of_row w9 _ 3 _ _ b6
      have d4 : w9.cell? ⟨w.heap.size, 4, none⟩ = some (.int .i64 0) := cell_of_row w9 _ 4 _ _ _ b6
      have h4 : w9.frozen? ⟨w.heap.size, 4, none⟩ = false := frozen_of_row w9 _ 4 _ _ b6
      have d5 : w9.cell? ⟨w.heap.size, 5, none⟩ = some (.int .i64 0) := cell_of_row w9 _ 5 _ _ _ b6
      have h5 : w9.frozen? ⟨w.heap.size, 5, none⟩ = false := frozen_of_row w9 _ 5 _ _ b6
      have d6 : w9.cell? ⟨w.heap.size, 6, none⟩ = some (.slice none 0 0) := cell_of_row w9 _ 6 _ _ _ b6
      have h6 : w9.frozen? ⟨w.heap.size, 6, none⟩ = false := frozen_of_row w9 _ 6 _ _ b6
      have z7 := (Array.getElem?_eq_some_iff.1 b7).1
      have HD := Lib.hid hD
      have HT := Lib.hid hT
      clear hD hT b6 b7
      have HC1 : Hid (([] : List Rec).length ≤ 0) := Nat.le_refl _
      have HC2 : Hid (0 ≤ maxLen) := Nat.zero_le _
      have HC3 : Hid (Rcs w9 w9.heap.size none ([] : List Rec).length []) := Rcs.nil_
      have HC4 : Hid (∀ p : Addr, (none : Option Addr) = some p → w.heap.size + 2 ≤ p.block) := fun p h => by cases h
      go_wp2_with fail
      refine bodyPost_ret (v := .agg #[.int .i64 (base : Int), .int .i64 (pid : Int), .int .i64 (epoch : Int), .int .i64 0, .int .i64 (kind : Int), .int .i64 (time : Int), .slice none 0 0]) (by simp [results, Try.results18, go_sem, d0, d1, d2, d3, d4, d5, d6]) rfl ?_
      refine ⟨[], _, _, _, _, _, rfl, HC1.out, HC2.out, ?_, fun p hp => by have := HC4.out p hp; omega, HC5.out, ?_, ?_⟩
      · refine Rcs.wider (B := w9.heap.size) ?_ (by simp)
        refine ⟨HC3.out.len, HC3.out.lies.far_ fun p hp i => ?_, HC3.out.ok⟩
        have hpb := HC4.out p hp
        have hpi := add_block p i
        have n0 : ¬ w.heap.size = (p.add i).block := by rw [hpi]; omega
        have n1 : ¬ w.heap.size + 1 = (p.add i).block := by rw [hpi]; omega
        simp only [World.cell?_setCell_far, ne_eq, n0, n1, not_false_eq_true]
      · exact (((((((HD.out.set (b := w.heap.size) (by omega) 0 _).set (b := w.heap.size) (by omega) 1 _).set (b := w.heap.size) (by omega) 2 _).set (b := w.heap.size) (by omega) 3 _).set (b := w.heap.size) (by omega) 4 _).set (b := w.heap.size) (by omega) 5 _).set (b := w.heap.size) (by omega) 6 _)
      · exact (((((((HT.out.new (b := w.heap.size) _ (Nat.le_refl _)).new (b := w.heap.size) _ (Nat.le_refl _)).new (b := w.heap.size) _ (Nat.le_refl _)).new (b := w.heap.size) _ (Nat.le_refl _)).new (b := w.heap.size) _ (Nat.le_refl _)).new (b := w.heap.size) _ (Nat.le_refl _)).new (b := w.heap.size) _ (Nat.le_refl _))
    · have hmf : mk = false := by simpa using hmt
      have e6 := E6B.out hmf
      have E6C := Lib.hid e6
      subst hmf
      clear e6 hmt E6A E6B
      have HU := Lib.hid (upTo_up HD.out E6C.out (by omega))
      go_wp2_with fail
      refine HU.out.mono ?_
      rintro e w8 ⟨rfl, hD, hT3⟩
      have hT := HT.out.trans hT3
      have b6 := (hT3.block w.heap.size (Array.getElem?_eq_some_iff.1 HB6.out).1 (by omega) (by omega)).trans HB6.out
      have b7 := (hT3.block (w.heap.size + 1) (Array.getElem?_eq_some_iff.1 HB7.out).1 (by omega) (by omega)).trans HB7.out
      clear hT3 HU HD HT HB6 HB7
      have y3 : w8.cell? ⟨w.heap.size + 1, 3, none⟩ = some (.int .i64 0) := cell_of_row w8 _ 3 _ _ _ b7
      have f3 : w8.frozen? ⟨w.heap.size + 1, 3, none⟩ = false := frozen_of_row w8 _ 3 _ _ b7
      have hDs := hD.set (b := w.heap.size + 1) (by omega) 3 (.int .i64 (seq : Int))
      have hTs := hT.new (i := 3) (b := w.heap.size + 1) (.int .i64 (seq : Int)) (by omega)
      have b6s : (w8.setCell ⟨w.heap.size + 1, 3, none⟩ (.int .i64 (seq : Int))).heap[w.heap.size]? = _ := ((grown_set w8 (w.heap.size + 1) 3 (.int .i64 (seq : Int))).block w.heap.size (Array.getElem?_eq_some_iff.1 b6).1 (fun e => by injection e with e; omega)).trans b6
      have b7s : (w8.setCell ⟨w.heap.size + 1, 3, none⟩ (.int .i64 (seq : Int))).heap[w.heap.size + 1]? = some (.cells #[.int .i64 (base : Int), .int .i64 (pid : Int), .int .i64 (epoch : Int), .int .i64 (seq : Int), .int .i64 (kind : Int), .int .i64 0, .slice none 0 0] 24 (0, 0)) := by rw [heap_setCell_same w8 _ 3 _ _ _ b7]; rfl
      have HD := Lib.hid hDs
      have HT := Lib.hid hTs
      have HB6 := Lib.hid b6s
      have HB7 := Lib.hid b7s
      clear hD hT b6 b7 hDs hTs b6s b7s
      have HU := Lib.hid (upTo_up HD.out E7.out (by omega))
      go_wp2_with fail
      generalize w8.setCell ⟨w.heap.size + 1, 3, none⟩ (.int .i64 (seq : Int)) = W8 at *
      refine HU.out.mono ?_
      rintro e w9 ⟨rfl, hD, hT3⟩
      have hT := HT.out.trans hT3
      have b6 := (hT3.block w.heap.size (Array.getElem?_eq_some_iff.1 HB6.out).1 (by omega) (by omega)).trans HB6.out
      have b7 := (hT3.block (w.heap.size + 1) (Array.getElem?_eq_some_iff.1 HB7.out).1 (by omega) (by omega)).trans HB7.out
      clear hT3 HU HD HT HB6 HB7 y3 f3
      have y5 : w9.cell? ⟨w.heap.size + 1, 5, none⟩ = some (.int .i64 0) := cell_of_row w9 _ 5 _ _ _ b7
      have f5 : w9.frozen? ⟨w.heap.size + 1, 5, none⟩ = false := frozen_of_row w9 _ 5 _ _ b7
      have hDs := hD.set (b := w.heap.size + 1) (by omega) 5 (.int .i64 (time : Int))
      have hTs := hT.new (i := 5) (b := w.heap.size + 1) (.int .i64 (time : Int)) (by omega)
      have b6s : (w9.setCell ⟨w.heap.size + 1, 5, none⟩ (.int .i64 (time : Int))).heap[w.heap.size]? = _ := ((grown_set w9 (w.heap.size + 1) 5 (.int .i64 (time : Int))).block w.heap.size (Array.getElem?_eq_some_iff.1 b6).1 (fun e => by injection e with e; omega)).trans b6
      have b7s : (w9.setCell ⟨w.heap.size + 1, 5, none⟩ (.int .i64 (time : Int))).heap[w.heap.size + 1]? = some (.cells #[.int .i64 (base : Int), .int .i64 (pid : Int), .int .i64 (epoch : Int), .int .i64 (seq : Int), .int .i64 (kind : Int), .int .i64 (time : Int), .slice none 0 0] 24 (0, 0)) := by rw [heap_setCell_same w9 _ 5 _ _ _ b7]; rfl
      have HD := Lib.hid hDs
      have HT := Lib.hid hTs
      have HB6 := Lib.hid b6s
      have HB7 := Lib.hid b7s
      clear hD hT b6 b7 hDs hTs b6s b7s
      have m0 : (w9.setCell ⟨w.heap.size + 1, 5, none⟩ (.int .i64 (time : Int))).cell? ⟨w.heap.size + 1, 0, none⟩ = some (.int .i64 (base : Int)) := cell_of_row _ _ 0 _ _ _ HB7.out
      have m1 : (w9.setCell ⟨w.heap.size + 1, 5, none⟩ (.int .i64 (time : Int))).cell? ⟨w.heap.size + 1, 1, none⟩ = some (.int .i64 (pid : Int)) := cell_of_row _ _ 1 _ _ _ HB7.out
      have m2 : (w9.setCell ⟨w.heap.size + 1, 5, none⟩ (.int .i64 (time : Int))).cell? ⟨w.heap.size + 1, 2, none⟩ = some (.int .i64 (epoch : Int)) := cell_of_row _ _ 2 _ _ _ HB7.out
      have m3 : (w9.setCell ⟨w.heap.size + 1, 5, none⟩ (.int .i64 (time : Int))).cell? ⟨w.heap.size + 1, 3, none⟩ = some (.int .i64 (seq : Int)) := cell_of_row _ _ 3 _ _ _ HB7.out
      have m4 : (w9.setCell ⟨w.heap.size + 1, 5, none⟩ (.int .i64 (time : Int))).cell? ⟨w.heap.size + 1, 4, none⟩ = some (.int .i64 (kind : Int)) := cell_of_row _ _ 4 _ _ _ HB7.out
      have m5 : (w9.setCell ⟨w.heap.size + 1, 5, none⟩ (.int .i64 (time : Int))).cell? ⟨w.heap.size + 1, 5, none⟩ = some (.int .i64 (time : Int)) := cell_of_row _ _ 5 _ _ _ HB7.out
      have m6 : (w9.setCell ⟨w.heap.size + 1, 5, none⟩ (.int .i64 (time : Int))).cell? ⟨w.heap.size + 1, 6, none⟩ = some (.slice none 0 0) := cell_of_row _ _ 6 _ _ _ HB7.out
      go_wp2_with fail
      generalize w9.setCell ⟨w.heap.size + 1, 5, none⟩ (.int .i64 (time : Int)) = W9 at *
      refine (HMK.out _ _ _ _ _ _ _ _ _).mono ?_
      rintro e w10 ⟨rfl, hbm⟩
      have hD := HD.out.below hbm HD.out.dlt
      have hT := HT.out.trans (Two.of_below (g := g) (d := d) hbm)
      have b6 := (hbm.block w.heap.size (Array.getElem?_eq_some_iff.1 HB6.out).1).trans HB6.out
      have b7 := (hbm.block (w.heap.size + 1) (Array.getElem?_eq_some_iff.1 HB7.out).1).trans HB7.out
      clear hbm HD HT HB6 HB7
      clear y5 f5 m0 m1 m2 m3 m4 m5 m6
      have HR := Lib.hid (HL1.out (by first | rfl | trivial) _ hD)
      have m5 : w10.cell? ⟨w.heap.size + 1, 5, none⟩ = some (.int .i64 (time : Int)) := cell_of_row w10 _ 5 _ _ _ b7
      have HD := Lib.hid hD
      have HT := Lib.hid hT
      have HB6 := Lib.hid b6
      have HB7 := Lib.hid b7
      clear hD hT b6 b7
      go_wp2_with fail
      refine HR.out.mono ?_
      rintro e w11 ⟨L, A', c', q, er', wr', rfl, hc1, hc2, hc3, hc4, hc5, hD, hT3⟩
      have hT := HT.out.trans hT3
      have b6 := (hT3.block w.heap.size (Array.getElem?_eq_some_iff.1 HB6.out).1 (by omega) (by omega)).trans HB6.out
      have b7 := (hT3.block (w.heap.size + 1) (Array.getElem?_eq_some_iff.1 HB7.out).1 (by omega) (by omega)).trans HB7.out
      have z8 := (Array.getElem?_eq_some_iff.1 HB7.out).1
      have HC1 := Lib.hid hc1
      have HC2 := Lib.hid hc2
      have HC3 := Lib.hid hc3
      have HC5 := Lib.hid hc5
      have HC4 : Hid (∀ p : Addr, A' = some p → w.heap.size + 2 ≤ p.block) := fun p hp => by have := hc4 p hp; omega
      clear hT3 HR HD HT HB6 HB7 m5 hc1 hc2 hc3 hc4 hc5 HL0 HL1 HMK
      have m0 : w11.cell? ⟨w.heap.size + 1, 0, none⟩ = some (.int .i64 (base : Int)) := cell_of_row w11 _ 0 _ _ _ b7
      have m1 : w11.cell? ⟨w.heap.size + 1, 1, none⟩ = some (.int .i64 (pid : Int)) := cell_of_row w11 _ 1 _ _ _ b7
      have m2 : w11.cell? ⟨w.heap.size + 1, 2, none⟩ = some (.int .i64 (epoch : Int)) := cell_of_row w11 _ 2 _ _ _ b7
      have m3 : w11.cell? ⟨w.heap.size + 1, 3, none⟩ = some (.int .i64 (seq : Int)) := cell_of_row w11 _ 3 _ _ _ b7
      have m4 : w11.cell? ⟨w.heap.size + 1, 4, none⟩ = some (.int .i64 (kind : Int)) := cell_of_row w11 _ 4 _ _ _ b7
      have m5 : w11.cell? ⟨w.heap.size + 1, 5, none⟩ = some (.int .i64 (time : Int)) := cell_of_row w11 _ 5 _ _ _ b7
      have m6 : w11.cell? ⟨w.heap.size + 1, 6, none⟩ = some (.slice none 0 0) := cell_of_row w11 _ 6 _ _ _ b7
      have f6 : w11.frozen? ⟨w.heap.size + 1, 6, none⟩ = false := frozen_of_row w11 _ 6 _ _ b7
      have d0 : w11.cell? ⟨w.heap.size, 0, none⟩ = some (.int .i64 0) := cell_of_row w11 _ 0 _ _ _ b6
      have h0 : w11.frozen? ⟨w.heap.size, 0, none⟩ = false := frozen_of_row w11 _ 0 _ _ b6
      have d1 : w11.cell? ⟨w.heap.size, 1, none⟩ = some (.int .i64 0) := cell_of_row w11 _ 1 _ _ _ b6
      have h1 : w11.frozen? ⟨w.heap.size, 1, none⟩ = false := frozen_of_row w11 _ 1 _ _ b6
      have d2 : w11.cell? ⟨w.heap.size, 2, none⟩ = some (.int .i64 0) := cell_of_row w11 _ 2 _ _ _ b6
      have h2 : w11.frozen? ⟨w.heap.size, 2, none⟩ = false := frozen_of_row w11 _ 2 _ _ b6
      have d3 : w11.cell? ⟨w.heap.size, 3, none⟩ = some (.int .i64 0) := cell_of_row w11 _ 3 _ _ _ b6
      have h3 : w11.frozen? ⟨w.heap.size, 3, none⟩ = false := frozen_of_row w11 _ 3 _ _ b6
      have d4 : w11.cell? ⟨w.heap.size, 4, none⟩ = some (.int .i64 0) := cell_of_row w11 _ 4 _ _ _ b6
      have h4 : w11.frozen? ⟨w.heap.size, 4, none⟩ = false := frozen_of_row w11 _ 4 _ _ b6
      have d5 : w11.cell? ⟨w.heap.size, 5, none⟩ = some (.int .i64 0) := cell_of_row w11 _ 5 _ _ _ b6
      have h5 : w11.frozen? ⟨w.heap.size, 5, none⟩ = false := frozen_of_row w11 _ 5 _ _ b6
      have d6 : w11.cell? ⟨w.heap.size, 6, none⟩ = some (.slice none 0 0) := cell_of_row w11 _ 6 _ _ _ b6
      have h6 : w11.frozen? ⟨w.heap.size, 6, none⟩ = false := frozen_of_row w11 _ 6 _ _ b6
      have z7 := (Array.getElem?_eq_some_iff.1 b7).1
      have HD := Lib.hid (hD.set (b := w.heap.size + 1) (by omega) 6 (.slice A' L.length c'))
      have HT := Lib.hid (hT.new (i := 6) (b := w.heap.size + 1) (.slice A' L.length c') (by omega))
      clear hD hT b6 b7
      go_wp2_with fail
      refine bodyPost_ret (v := .agg #[.int .i64 (base : Int), .int .i64 (pid : Int), .int .i64 (epoch : Int), .int .i64 (seq : Int), .int .i64 (kind : Int), .int .i64 (time : Int), .slice A' L.length c']) (by simp [results, Try.results18, go_sem, d0, d1, d2, d3, d4, d5, d6]) rfl ?_
      refine ⟨L, _, _, _, _, _, rfl, HC1.out, HC2.out, ?_, fun p hp => by have := HC4.out p hp; omega, HC5.out, ?_, ?_⟩
      · refine Rcs.wider (B := w11.heap.size) ?_ (by simp)
        refine ⟨HC3.out.len, HC3.out.lies.far_ fun p hp i => ?_, HC3.out.ok⟩
        have hpb := HC4.out p hp
        have hpi := add_block p i
        have n0 : ¬ w.heap.size = (p.add i).block := by rw [hpi]; omega
        have n1 : ¬ w.heap.size + 1 = (p.add i).block := by rw [hpi]; omega
        simp only [World.cell?_setCell_far, ne_eq, n0, n1, not_false_eq_true]
      · exact (((((((HD.out.set (b := w.heap.size) (by omega) 0 _).set (b := w.heap.size) (by omega) 1 _).set (b := w.heap.size) (by omega) 2 _).set (b := w.heap.size) (by omega) 3 _).set (b := w.heap.size) (by omega) 4 _).set (b := w.heap.size) (by omega) 5 _).set (b := w.heap.size) (by omega) 6 _)
      · exact (((((((HT.out.new (b := w.heap.size) _ (Nat.le_refl _)).new (b := w.heap.size) _ (Nat.le_refl _)).new (b := w.heap.size) _ (Nat.le_refl _)).new (b := w.heap.size) _ (Nat.le_refl _)).new (b := w.heap.size) _ (Nat.le_refl _)).new (b := w.heap.size) _ (Nat.le_refl _)).new (b := w.heap.size) _ (Nat.le_refl _))
end Go.Proofs.Ytniopekkfnkipaa
namespace Go.Proofs.Ytniopekkfnkipaa
open Go.RowKit
set_option linter.unusedVariables false
set_option linter.unusedSimpArgs false

theorem numF_pos : ∀ (k i : Nat) (l : List UInt8) (x : Nat × Nat), Wn.numF k i l = some x → 0 < i → 0 < x.1 := by
  intro k
  induction k with
  | zero => intro i l x h; simp [Wn.numF] at h
  | succ k ih =>
    intro i l x h hi
    cases l with
    | nil => simp [Wn.numF] at h
    | cons b r =>
      simp only [Wn.numF] at h
      split at h
      · split at h
        · cases h
        · rename_i hn
          injection h with h; subst h
          show 0 < b.toNat
          omega
      · obtain ⟨y, hy, rfl⟩ := Option.map_eq_some_iff.1 h
        have := ih (i + 1) r y hy (by omega)
        show 0 < b.toNat - 128 + 128 * y.1
        omega
theorem numF_strict : ∀ (k i : Nat) (l : List UInt8) (x : Nat × Nat), Wn.numF k i l = some x → l = Wn.encF k x.1 ++ l.drop x.2 := by
  intro k
  induction k with
  | zero => intro i l x h; simp [Wn.numF] at h
  | succ k ih =>
    intro i l x h
    cases l with
    | nil => simp [Wn.numF] at h
    | cons b r =>
      simp only [Wn.numF] at h
      split at h
      · rename_i hb
        split at h
        · cases h
        · injection h with h; subst h
          show b :: r = Wn.encF (k + 1) b.toNat ++ r
          unfold Wn.encF
          rw [if_pos hb]
          simp
      · rename_i hb
        obtain ⟨y, hy, rfl⟩ := Option.map_eq_some_iff.1 h
        have h1 := ih (i + 1) r y hy
        have h2 := numF_pos k (i + 1) r y hy (by omega)
        have h3 := b.toNat_lt
        show b :: r = Wn.encF (k + 1) (b.toNat - 128 + 128 * y.1) ++ r.drop y.2
        unfold Wn.encF
        rw [if_neg (by omega), show (b.toNat - 128 + 128 * y.1) / 128 = y.1 by omega, show (b.toNat - 128 + 128 * y.1) % 128 + 128 = b.toNat by omega, List.cons_append, ← h1]
        simp
theorem num_strict {l : List UInt8} {x : Nat × Nat} (h : Wn.num l = some x) : l = Wn.enc x.1 ++ l.drop x.2 := numF_strict 10 0 l x h
theorem zig_zag (v : Nat) : Wn.zig (Wn.zag v) = v := by unfold Wn.zig Wn.zag; split <;> split <;> omega
theorem uint_strict {l : List UInt8} {p q n : Nat} (h : dUint l p = .ok (.int .u64 (n : Int)) q) : l.drop p = Wn.enc n ++ l.drop q := by
  unfold dUint at h
  cases hn : Wn.num (l.drop p) with
  | none => rw [hn] at h; cases h
  | some x =>
    rw [hn] at h
    obtain ⟨h1, h2⟩ := ok_inj h
    have h1 := int_inj h1
    have h3 : x.1 = n := by omega
    have := num_strict hn
    rw [List.drop_drop, h3, h2] at this
    exact this
theorem int_strict {l : List UInt8} {p q : Nat} {t : Int} (h : dInt l p = .ok (.int .i64 t) q) : l.drop p = Wn.enc (Wn.zig t) ++ l.drop q := by
  unfold dInt at h
  cases hn : Wn.num (l.drop p) with
  | none => rw [hn] at h; cases h
  | some x =>
    rw [hn] at h
    obtain ⟨h1, h2⟩ := ok_inj h
    have h1 := int_inj h1
    have := num_strict hn
    rw [List.drop_drop, h2] at this
    rw [← h1, zig_zag]
    exact this
theorem byte_at_ {l : List UInt8} {p : Nat} (h : p < l.length) : l.drop p = l.getD p 0 :: l.drop (p + 1) := by
  rw [List.drop_eq_getElem_cons h, List.getD_eq_getElem?_getD, List.getElem?_eq_getElem h]; rfl
theorem flag_strict {l : List UInt8} {p q : Nat} {on : Bool} (h : dFlag l p = .ok (.bool on) q) : l.drop p = encF_ on ++ l.drop q := by
  unfold dFlag at h
  by_cases h1 : p < l.length
  · rw [if_pos h1] at h
    by_cases h2 : (l.getD p 0).toNat ≤ 1
    · rw [if_pos h2] at h
      obtain ⟨h3, h4⟩ := ok_inj h
      injection h3 with h3
      rw [byte_at_ h1, ← h4, ← h3]
      generalize l.getD p 0 = b at *
      rcases Nat.le_one_iff_eq_zero_or_eq_one.1 h2 with h5 | h5
      · have : b = 0 := UInt8.toNat_inj.1 h5
        subst this; rfl
      · have : b = 1 := UInt8.toNat_inj.1 h5
        subst this; rfl
    · rw [if_neg h2] at h; cases h
  · rw [if_neg h1] at h; cases h
theorem byte_strict {l : List UInt8} {p q b : Nat} (h : dByte l p = .ok (.int .i64 (b : Int)) q) : b < 256 ∧ l.drop p = UInt8.ofNat b :: l.drop q := by
  unfold dByte at h
  by_cases h1 : p < l.length
  · rw [if_pos h1] at h
    obtain ⟨h3, h4⟩ := ok_inj h
    have h3 := int_inj h3
    have h5 : (l.getD p 0).toNat = b := by omega
    have := (l.getD p 0).toNat_lt
    refine ⟨by omega, ?_⟩
    rw [byte_at_ h1, ← h4, ← h5]; simp
  · rw [if_neg h1] at h; cases h
theorem text_strict {l : List UInt8} {p q : Nat} {most : Int} {s : ByteArray} (h : dText l p most = .ok (.string s) q) : l.drop p = encT s ++ l.drop q := by
  unfold dText at h
  cases hn : Wn.num (l.drop p) with
  | none => rw [hn] at h; cases h
  | some x =>
    rw [hn] at h
    simp only at h
    by_cases h1 : most.toNat < x.1
    · rw [if_pos h1] at h; cases h
    · rw [if_neg h1] at h
      by_cases h2 : l.length - (p + x.2) < x.1
      · rw [if_pos h2] at h; cases h
      · rw [if_neg h2] at h
        obtain ⟨h3, h4⟩ := ok_inj h
        injection h3 with h3
        have h5 := num_strict hn
        rw [List.drop_drop] at h5
        have h6 : s.size = x.1 := by rw [← h3]; simp [ByteArray.size]; omega
        unfold encT
        rw [h5, h6, ← h3, ← h4, List.append_assoc]
        congr 1
        show _ = (l.drop (p + x.2)).take x.1 ++ l.drop (p + x.2 + x.1)
        rw [show l.drop (p + x.2 + x.1) = (l.drop (p + x.2)).drop x.1 from List.drop_drop.symm, List.take_append_drop]
theorem rec_strict {l : List UInt8} {time : Int} {last : ByteArray} {p q : Nat} {r : Rec} (h : RecAt l time last p r q) : l.drop p = recS r time last ++ l.drop q := by
  obtain ⟨p1, p2, p3, p4, t, e1, e2, e3, e4, e5, e6, e7⟩ := h.at_
  have ht : r.time - time = t := by omega
  unfold recS
  rw [int_strict e1, flag_strict e3, uint_strict e4, text_strict e5, ht]
  cases hg : r.gone with
  | true =>
    obtain ⟨_, rfl⟩ := e6 hg
    simp only [if_pos, List.append_assoc, List.append_nil]
  | false =>
    rw [text_strict (e7 hg)]
    simp only [Bool.false_eq_true, if_false, List.append_assoc]
theorem head_strict {l : List UInt8} {mk : Bool} {base pid epoch seq kind time q : Nat} (h : HeadAt l mk base pid epoch seq kind time q) (hk : kind < 128) : l = headS mk base pid epoch seq kind time ++ l.drop q := by
  obtain ⟨p3, p4, p5, p6, e1, e2, e3, e4, e5, e6, e7⟩ := h.at_
  have b1 := (byte_strict (b := 1) e1).2
  have b2 := (byte_strict e2).2
  have h0 : l = UInt8.ofNat 1 :: (UInt8.ofNat kind :: l.drop 2) := by rw [← b2, ← b1]; rfl
  rw [uint_strict e3, uint_strict e4] at h0
  have hq : l.drop p4 = (if pid = 0 then [] else Wn.enc epoch ++ (if mk then [] else Wn.enc seq)) ++ l.drop p6 := by
    by_cases hp : pid = 0
    · rw [if_pos hp, (e5 hp).2.2]; rfl
    · rw [if_neg hp]
      obtain ⟨a, b, c⟩ := e6 hp
      rw [uint_strict a]
      cases mk with
      | true => rw [(b rfl).2]; simp
      | false => rw [uint_strict (c rfl)]; simp
  rw [hq, uint_strict e7] at h0
  unfold headS
  rw [enc_small 1 (by omega), enc_small kind hk]
  simp only [List.append_assoc, List.cons_append, List.nil_append]
  exact h0
theorem bat_strict {l : List UInt8} {b : Bat} (h : BatAt l b) : l = encB b := by
  obtain ⟨q, hh, hm1, hm0⟩ := h.at_
  have hF := h.fine
  have a9 := hF.k1; have a10 := hF.k2
  have h0 := head_strict hh (by omega)
  unfold encB headOf
  by_cases hm : markB b = true
  · rw [if_pos hm]
    rw [(hm1 hm).2, List.drop_length, List.append_nil] at h0
    exact h0
  · rw [if_neg hm]
    obtain ⟨P, u1, u2, u3⟩ := hm0 (by simpa using hm)
    have hr : ∀ k, k ≤ b.L.length → l.drop (P 0) = (rowsS b.L b.time k).flatten ++ l.drop (P k) := by
      intro k
      induction k with
      | zero => intro _; simp [rowsS]
      | succ k ih =>
        intro hk
        rw [ih (by omega), rowsS_succ, List.flatten_append, rec_strict (u3 k (by omega))]
        simp
    rw [uint_strict u1, hr _ (Nat.le_refl _), u2, List.drop_length, List.append_nil, ← List.append_assoc] at h0
    exact h0
end Go.Proofs.Ytniopekkfnkipaa
namespace Go.Proofs.Ytniopekkfnkipaa
open Go.RowKit
set_option linter.unusedVariables false
set_option linter.unusedSimpArgs false

theorem trip {α β γ : Type} (t : α × β × γ) : ∃ a b c, t = (a, b, c) := ⟨t.1, t.2.1, t.2.2, rfl⟩
theorem HeadG.ex (l : List UInt8) : ∃ (mk : Bool) (b0 base pid epoch seq kind time q7 r7 : Nat) (w1 w7 : Bool), (((kind : Int) == 2) || ((kind : Int) == 3)) = mk ∧ HeadG l mk b0 base pid epoch seq kind time q7 r7 w1 w7 := by
  obtain ⟨b0, q1, r1, e1⟩ := trip (byteR l 0 0)
  obtain ⟨w1, ew⟩ : ∃ w1, (false || !((b0 : Int) == 1)) = w1 := ⟨_, rfl⟩
  obtain ⟨kind, q2, r2, e2⟩ := trip (byteR l q1 r1)
  obtain ⟨mk, hmk⟩ : ∃ mk, (((kind : Int) == 2) || ((kind : Int) == 3)) = mk := ⟨_, rfl⟩
  obtain ⟨base, q3, r3, w3, e3⟩ := UP.ex l q2 r2 w1 1099511627776
  obtain ⟨pid, q4, r4, w4, e4⟩ := UP.ex l q3 r3 w3 1048576
  by_cases hp : pid = 0
  · obtain ⟨time, q7, r7, w7, e7⟩ := UP.ex l q4 r4 w4 1099511627776
    exact ⟨mk, b0, base, pid, 0, 0, kind, time, q7, r7, w1, w7, hmk, ⟨q1, r1, q2, r2, q3, r3, w3, q4, r4, w4, q4, r4, w4, q4, r4, w4, e1, ew, e2, e3, e4, fun _ => ⟨rfl, rfl, rfl, rfl, rfl⟩, fun h => absurd hp h, e7⟩⟩
  · obtain ⟨epoch, q5, r5, w5, e5⟩ := UP.ex l q4 r4 w4 32767
    cases mk with
    | true =>
      obtain ⟨time, q7, r7, w7, e7⟩ := UP.ex l q5 r5 w5 1099511627776
      exact ⟨true, b0, base, pid, epoch, 0, kind, time, q7, r7, w1, w7, hmk, ⟨q1, r1, q2, r2, q3, r3, w3, q4, r4, w4, q5, r5, w5, q5, r5, w5, e1, ew, e2, e3, e4, fun h => absurd h hp, fun _ => ⟨e5, fun _ => ⟨rfl, rfl, rfl, rfl⟩, fun h => (by cases h)⟩, e7⟩⟩
    | false =>
      obtain ⟨seq, q6, r6, w6, e6⟩ := UP.ex l q5 r5 w5 2147483647
      obtain ⟨time, q7, r7, w7, e7⟩ := UP.ex l q6 r6 w6 1099511627776
      exact ⟨false, b0, base, pid, epoch, seq, kind, time, q7, r7, w1, w7, hmk, ⟨q1, r1, q2, r2, q3, r3, w3, q4, r4, w4, q5, r5, w5, q6, r6, w6, e1, ew, e2, e3, e4, fun h => absurd h hp, fun _ => ⟨e5, fun h => (by cases h), fun _ => e6⟩, e7⟩⟩
theorem byteR_next {l : List UInt8} {p b q : Nat} (h : dByte l p = .ok (.int .i64 (b : Int)) q) : q = p + 1 ∧ p < l.length := by
  unfold dByte at h
  by_cases h1 : p < l.length
  · rw [if_pos h1] at h
    exact ⟨(ok_inj h).2.symm, h1⟩
  · rw [if_neg h1] at h; cases h
theorem HeadG.sound {l : List UInt8} {mk : Bool} {b0 base pid epoch seq kind time q7 : Nat} {w1 : Bool} (h : HeadG l mk b0 base pid epoch seq kind time q7 0 w1 false) : HeadAt l mk base pid epoch seq kind time q7 := by
  obtain ⟨q1, r1, q2, r2, q3, r3, w3, q4, r4, w4, q5, r5, w5, q6, r6, w6, e1, ew, e2, e3, e4, e5, e6, e7⟩ := h.at_
  obtain ⟨a6, b6, d7⟩ := e7.sound rfl rfl
  subst a6 b6
  have key : r4 = 0 ∧ w4 = false := by
    by_cases hp : pid = 0
    · obtain ⟨_, _, _, x, y⟩ := e5 hp
      exact ⟨x.symm, y.symm⟩
    · obtain ⟨u5, ut, uf⟩ := e6 hp
      have k5 : r5 = 0 ∧ w5 = false := by
        cases mk with
        | true => obtain ⟨_, _, x, y⟩ := ut rfl; exact ⟨x.symm, y.symm⟩
        | false => obtain ⟨x, y, _⟩ := (uf rfl).sound rfl rfl; exact ⟨x, y⟩
      obtain ⟨x, y, _⟩ := u5.sound k5.1 k5.2
      exact ⟨x, y⟩
  obtain ⟨a4, b4⟩ := key
  obtain ⟨a3, b3, d4⟩ := e4.sound a4 b4
  obtain ⟨a2, b2, d3⟩ := e3.sound a3 b3
  subst a2 b2
  have hq1 : q1 ≤ l.length := by
    by_cases hl : 0 < l.length
    · have := byteR_0 (l := l) (p := 0) (Nat.zero_le _)
      rw [if_pos hl, e1] at this
      injection this with _ this
      injection this with this _
      omega
    · have := byteR_0 (l := l) (p := 0) (Nat.zero_le _)
      rw [if_neg hl, e1] at this
      injection this with _ this
      injection this with this _
      omega
  obtain ⟨a1, d2⟩ := byteR_ok hq1 e2
  subst a1
  obtain ⟨_, d1⟩ := byteR_ok (Nat.zero_le _) e1
  have hb : b0 = 1 := by simp at ew; omega
  subst hb
  obtain ⟨x1, _⟩ := byteR_next d1
  subst x1
  obtain ⟨x2, _⟩ := byteR_next d2
  subst x2
  refine ⟨q3, q4, q5, q6, d1, d2, d3, d4, fun hp => ?_, fun hp => ?_, d7⟩
  · obtain ⟨x, y, z, _, _⟩ := e5 hp
    exact ⟨x, y, z⟩
  · obtain ⟨u5, ut, uf⟩ := e6 hp
    cases mk with
    | true =>
      obtain ⟨x, y, z, u⟩ := ut rfl
      exact ⟨(u5.sound z.symm u.symm).2.2, fun _ => ⟨x, y⟩, fun h => by cases h⟩
    | false =>
      obtain ⟨x, y, z⟩ := (uf rfl).sound rfl rfl
      exact ⟨(u5.sound x y).2.2, fun h => (by cases h), fun _ => z⟩

theorem dbatch_any (d g c : Nat) (A : Option Addr) (l : List UInt8) (w : World) (h : Dg w d g A c l 0 0 false) :
    Calls Try.prog 18 #[.pointer (some ⟨d, 0, none⟩)] w fun e w' => ∃ b A' c' q er wr, e = .returned (.agg (Bat.cells b A' c')) ∧ b.L.length ≤ 64 ∧ b.L.length ≤ c' ∧ c' ≤ maxLen ∧ Rcs w' w'.heap.size A' b.L.length b.L ∧ (∀ p, A' = some p → w.heap.size ≤ p.block) ∧
      (er = 0 → wr = false → q = l.length → Fine b → BatAt l b) ∧ Dg w' d g A c l q er wr ∧ Two g d w w' := by
  obtain ⟨mk, b0, base, pid, epoch, seq, kind, time, q7, r7, w1, w7, hmk, hh⟩ := HeadG.ex l
  have htm : time ≤ 1099511627776 := by
    obtain ⟨q1, r1, q2, r2, q3, r3, w3, q4, r4, w4, q5, r5, w5, q6, r6, w6, e1, ew, e2, e3, e4, e5, e6, e7⟩ := hh.at_
    exact e7.le
  refine (dbatch_g (fun L q er wr => L.length ≤ 64 ∧ (mk = true → L = [] ∧ q = q7 ∧ er = r7 ∧ wr = w7) ∧ (mk = false → er = 0 → wr = false → r7 = 0 ∧ w7 = false ∧ ((∀ r ∈ L, 0 ≤ r.time) → ∃ p1, dUint l q7 = .ok (.int .u64 (L.length : Int)) p1 ∧ RecsAt l (time : Int) L p1 q)))
    mk d g c b0 base pid epoch seq kind time q7 r7 w1 w7 A l w h hh hmk (fun hm => ⟨by simp, fun _ => ⟨rfl, rfl, rfl, rfl⟩, fun h => (by rw [hm] at h; cases h)⟩) (fun hm W hW => ?_)).mono ?_
  · refine (drecs_any d g c q7 r7 w7 A l (time : Int) W hW (by omega) (by omega)).mono ?_
    rintro e w' ⟨L, A', c', q, er, wr, rfl, a1, a2, a3, a4, a5, a6, a7, a8⟩
    exact ⟨L, A', c', q, er, wr, rfl, a2, a3, a4, a5, ⟨a1, fun h => (by rw [hm] at h; cases h), fun _ => a6⟩, a7, a8⟩
  · rintro e w' ⟨L, A', c', q, er, wr, rfl, a2, a3, a4, a5, ⟨s1, s2, s3⟩, a7, a8⟩
    refine ⟨⟨base, pid, epoch, seq, kind, time, L⟩, A', c', q, er, wr, rfl, s1, a2, a3, a4, a5, fun he hw hq hF => ?_, a7, a8⟩
    have hmb : markB ⟨(base : Int), pid, epoch, seq, kind, time, L⟩ = mk := hmk
    subst he hw
    cases hm : mk with
    | true =>
      obtain ⟨x1, x2, x3, x4⟩ := s2 hm
      subst x1 x3 x4
      have hat := hh.sound
      refine ⟨hF, q7, ?_, fun _ => ⟨rfl, by omega⟩, fun h => ?_⟩
      · rw [hmb]; exact hat
      · rw [hmb, hm] at h; cases h
    | false =>
      obtain ⟨x1, x2, x3⟩ := s3 hm rfl rfl
      subst x1 x2
      have hat := hh.sound
      obtain ⟨p1, u1, P, u2, u3, u4⟩ := x3 (fun r hr => (recE_zero (hF.recs r hr)).2.2.1)
      refine ⟨hF, q7, ?_, fun h => ?_, fun _ => ⟨P, by rw [u2]; exact u1, by rw [← hq]; exact u3, u4⟩⟩
      · rw [hmb]; exact hat
      · rw [hmb, hm] at h; cases h

theorem Rcs.grown {w w' : World} {B g n : Nat} {A : Option Addr} {L : List Rec} (h : Rcs w B A n L) (hg : w.grownBy w' (some g)) (hB : B ≤ w.heap.size) (hA : ∀ p, A = some p → p.block ≠ g) : Rcs w' B A n L :=
  ⟨h.len, ⟨fun j u hj => by
    obtain ⟨p, e, hb, hc⟩ := h.lies.get j u hj
    exact ⟨p, e, hb, (World.cell?_of_block (hg.block (p.add j).block (by rw [add_block]; omega) (fun q => by rw [add_block] at q; injection q with q; exact hA p e q))).trans hc⟩⟩, h.ok⟩
set_option maxRecDepth 100000 in
set_option maxHeartbeats 8000000 in
theorem decode_none (A : Option Addr) (n c B : Nat) (l : List UInt8) (w : World) (hbs : Bs w B A n l) (hn : n ≤ 1099511627776) (hB : B ≤ w.heap.size) (hno : ∀ b, ¬ BatAt l b) :
    Calls Try.prog 6 #[.slice A n c] w fun e w' => e = .returned (.tuple #[.agg #[.int .i64 0, .int .i64 0, .int .i64 0, .int .i64 0, .int .i64 0, .int .i64 0, .slice none 0 0], .int .i64 6]) ∧ Below w.heap.size w w' := by
  have HVA : Hid (∀ (b : Bat) (W : World) (A' : Option Addr) (c' : Nat), b.L.length ≤ 64 → Rcs W W.heap.size A' b.L.length b.L → Calls Try.prog 20 #[.agg (b.cells A' c')] W fun e w' => e = .returned (.int .i64 (validE b)) ∧ Below W.heap.size W w') := fun b W A' c' hl hW => valid_any b A' c' W.heap.size W hW (Nat.le_refl _) (by unfold maxLen; omega)
  have HNR := Lib.hid (newReader_any A n c B l (w.alloc (.cells #[.int .i64 0, .int .i64 0, .int .i64 0, .int .i64 0, .int .i64 0, .int .i64 0, .slice none 0 0] 24)) (hbs.alloc hB _) hn (by simp; omega))
  have hr := heap_alloc_new w (.cells #[.int .i64 0, .int .i64 0, .int .i64 0, .int .i64 0, .int .i64 0, .int .i64 0, .slice none 0 0] 24)
  have HR := Lib.hid hr
  have HW := Lib.hid ((Below.refl w.heap.size w).alloc (Nat.le_refl _) (.cells #[.int .i64 0, .int .i64 0, .int .i64 0, .int .i64 0, .int .i64 0, .int .i64 0, .slice none 0 0] 24))
  have hz1 : w.heap.size + 1 = (w.alloc (.cells #[.int .i64 0, .int .i64 0, .int .i64 0, .int .i64 0, .int .i64 0, .int .i64 0, .slice none 0 0] 24)).heap.size := by simp
  have HZ1 := Lib.hid hz1
  have HNO := Lib.hid hno
  clear hr hz1 hbs hno
  go_enter Try.func6, Try.ntmps6
  go_wp2_with fail
  generalize w.alloc (.cells #[.int .i64 0, .int .i64 0, .int .i64 0, .int .i64 0, .int .i64 0, .int .i64 0, .slice none 0 0] 24) = w1 at *
  refine HNR.out.mono ?_
  rintro e w2 ⟨g, A2, c2, rfl, hg, hr2, hb2⟩
  have hgw : w.heap.size + 1 ≤ g := by rw [HZ1.out]; exact hg
  have hr2' := (hb2.block w.heap.size (by have := HZ1.out; omega)).trans HR.out
  have hB2 := HW.out.trans (hb2.mono HW.out.size)
  have hD2 : Dg (w2.alloc (.cells #[.pointer (some ⟨g, 0, none⟩), .bool false] 47)) w2.heap.size g A2 c2 l 0 0 false := ⟨heap_alloc_new w2 _, hr2.alloc _, hr2.lt⟩
  have hB3 := hB2.alloc hB2.size (.cells #[.pointer (some ⟨g, 0, none⟩), .bool false] 47)
  have hr3 : (w2.alloc (.cells #[.pointer (some ⟨g, 0, none⟩), .bool false] 47)).heap[w.heap.size]? = _ := (((Below.refl w2.heap.size w2).alloc (Nat.le_refl _) _).block w.heap.size (by have := hr2.lt; omega)).trans hr2'
  have HB := Lib.hid (dbatch_any _ _ _ _ _ _ hD2)
  have hgl := hr2.lt
  have HB3 := Lib.hid hB3
  have HR3 := Lib.hid hr3
  clear hr2 hb2 hr2' hB2 hD2 hB3 hr3 HNR HR HW
  go_wp2_with fail
  have hz3 : w2.heap.size < (w2.alloc (.cells #[.pointer (some ⟨g, 0, none⟩), .bool false] 47)).heap.size := by simp
  generalize w2.alloc (.cells #[.pointer (some ⟨g, 0, none⟩), .bool false] 47) = w3 at *
  refine HB.out.mono ?_
  rintro e w4 ⟨b, A4, c4, q, er, wr, rfl, hl4, hc4, hm4, hR4, hA4, hsn, hD4, hT4⟩
  have HSN := Lib.hid hsn
  have HVB := Lib.hid (fun W hW => HVA.out b W A4 c4 hl4 hW)
  have HFI := Lib.hid (fine_iff b)
  have HNB := Lib.hid (HNO.out b)
  generalize validE b = V at *
  obtain ⟨base, pid, epoch, seq, kind, time, L⟩ := b
  unfold Bat.cells at *
  simp only at *
  have HA4 : Hid (∀ p, A4 = some p → p.block ≠ g) := fun p hp => by have := hA4 p hp; omega
  clear hA4 hsn HVA HNO
  have hr4 := (hT4.block w.heap.size (by omega) (by omega) (by omega)).trans HR3.out
  have hB4 := HB3.out.trans (hT4.below (B := w.heap.size) (by omega) (by omega) (by omega))
  have z4 := hT4.size
  -- the batch in its block
  have hb5 := heap_alloc_new w4 (.cells #[.int .i64 base, .int .i64 pid, .int .i64 epoch, .int .i64 seq, .int .i64 kind, .int .i64 time, .slice A4 L.length c4] 24)
  have hD5 := hD4.alloc (.cells #[.int .i64 base, .int .i64 pid, .int .i64 epoch, .int .i64 seq, .int .i64 kind, .int .i64 time, .slice A4 L.length c4] 24)
  have hal := (Below.refl w4.heap.size w4).alloc (Nat.le_refl _) (.cells #[.int .i64 base, .int .i64 pid, .int .i64 epoch, .int .i64 seq, .int .i64 kind, .int .i64 time, .slice A4 L.length c4] 24)
  have hR5 := (hR4.below hal).wider hal.size
  have hr5 := (hal.block w.heap.size (by omega)).trans hr4
  have hB5 := hB4.alloc hB4.size (.cells #[.int .i64 base, .int .i64 pid, .int .i64 epoch, .int .i64 seq, .int .i64 kind, .int .i64 time, .slice A4 L.length c4] 24)
  have hz5 : w4.heap.size < (w4.alloc (.cells #[.int .i64 base, .int .i64 pid, .int .i64 epoch, .int .i64 seq, .int .i64 kind, .int .i64 time, .slice A4 L.length c4] 24)).heap.size := by simp
  clear hr4 hB4 hD4 hR4 hT4 hal HB HB3 HR3
  have x0 := hD5.c0
  have x1 := hD5.c1
  have HEN := Lib.hid (pEnd_any g c2 q er A2 l _ hD5.rd)
  have HB5 := Lib.hid hb5
  have HR5 := Lib.hid hR5
  have hrr := hr5
  have HBE := Lib.hid hB5
  have hgl2 := hD5.lt
  clear hb5 hD5 hR5 hr5 hB5
  cases wr with
  | true =>
    have e0 : w4.heap.size ≠ w.heap.size := by omega
    have HRR := Lib.hid hrr
    clear HEN HB5 HR5 HVB HSN HFI HNB x0
    have d0 : (w4.alloc (.cells #[.int .i64 base, .int .i64 pid, .int .i64 epoch, .int .i64 seq, .int .i64 kind, .int .i64 time, .slice A4 L.length c4] 24)).cell? ⟨w.heap.size, 0, none⟩ = some (.int .i64 0) := cell_of_row _ _ 0 _ _ _ hrr
    have h0 : (w4.alloc (.cells #[.int .i64 base, .int .i64 pid, .int .i64 epoch, .int .i64 seq, .int .i64 kind, .int .i64 time, .slice A4 L.length c4] 24)).frozen? ⟨w.heap.size, 0, none⟩ = false := frozen_of_row _ _ 0 _ _ hrr
    have d1 : (w4.alloc (.cells #[.int .i64 base, .int .i64 pid, .int .i64 epoch, .int .i64 seq, .int .i64 kind, .int .i64 time, .slice A4 L.length c4] 24)).cell? ⟨w.heap.size, 1, none⟩ = some (.int .i64 0) := cell_of_row _ _ 1 _ _ _ hrr
    have h1 : (w4.alloc (.cells #[.int .i64 base, .int .i64 pid, .int .i64 epoch, .int .i64 seq, .int .i64 kind, .int .i64 time, .slice A4 L.length c4] 24)).frozen? ⟨w.heap.size, 1, none⟩ = false := frozen_of_row _ _ 1 _ _ hrr
    have d2 : (w4.alloc (.cells #[.int .i64 base, .int .i64 pid, .int .i64 epoch, .int .i64 seq, .int .i64 kind, .int .i64 time, .slice A4 L.length c4] 24)).cell? ⟨w.heap.size, 2, none⟩ = some (.int .i64 0) := cell_of_row _ _ 2 _ _ _ hrr
    have h2 : (w4.alloc (.cells #[.int .i64 base, .int .i64 pid, .int .i64 epoch, .int .i64 seq, .int .i64 kind, .int .i64 time, .slice A4 L.length c4] 24)).frozen? ⟨w.heap.size, 2, none⟩ = false := frozen_of_row _ _ 2 _ _ hrr
    have d3 : (w4.alloc (.cells #[.int .i64 base, .int .i64 pid, .int .i64 epoch, .int .i64 seq, .int .i64 kind, .int .i64 time, .slice A4 L.length c4] 24)).cell? ⟨w.heap.size, 3, none⟩ = some (.int .i64 0) := cell_of_row _ _ 3 _ _ _ hrr
    have h3 : (w4.alloc (.cells #[.int .i64 base, .int .i64 pid, .int .i64 epoch, .int .i64 seq, .int .i64 kind, .int .i64 time, .slice A4 L.length c4] 24)).frozen? ⟨w.heap.size, 3, none⟩ = false := frozen_of_row _ _ 3 _ _ hrr
    have d4 : (w4.alloc (.cells #[.int .i64 base, .int .i64 pid, .int .i64 epoch, .int .i64 seq, .int .i64 kind, .int .i64 time, .slice A4 L.length c4] 24)).cell? ⟨w.heap.size, 4, none⟩ = some (.int .i64 0) := cell_of_row _ _ 4 _ _ _ hrr
    have h4 : (w4.alloc (.cells #[.int .i64 base, .int .i64 pid, .int .i64 epoch, .int .i64 seq, .int .i64 kind, .int .i64 time, .slice A4 L.length c4] 24)).frozen? ⟨w.heap.size, 4, none⟩ = false := frozen_of_row _ _ 4 _ _ hrr
    have d5 : (w4.alloc (.cells #[.int .i64 base, .int .i64 pid, .int .i64 epoch, .int .i64 seq, .int .i64 kind, .int .i64 time, .slice A4 L.length c4] 24)).cell? ⟨w.heap.size, 5, none⟩ = some (.int .i64 0) := cell_of_row _ _ 5 _ _ _ hrr
    have h5 : (w4.alloc (.cells #[.int .i64 base, .int .i64 pid, .int .i64 epoch, .int .i64 seq, .int .i64 kind, .int .i64 time, .slice A4 L.length c4] 24)).frozen? ⟨w.heap.size, 5, none⟩ = false := frozen_of_row _ _ 5 _ _ hrr
    have d6 : (w4.alloc (.cells #[.int .i64 base, .int .i64 pid, .int .i64 epoch, .int .i64 seq, .int .i64 kind, .int .i64 time, .slice A4 L.length c4] 24)).cell? ⟨w.heap.size, 6, none⟩ = some (.slice none 0 0) := cell_of_row _ _ 6 _ _ _ hrr
    have h6 : (w4.alloc (.cells #[.int .i64 base, .int .i64 pid, .int .i64 epoch, .int .i64 seq, .int .i64 kind, .int .i64 time, .slice A4 L.length c4] 24)).frozen? ⟨w.heap.size, 6, none⟩ = false := frozen_of_row _ _ 6 _ _ hrr
    clear hrr
    go_wp2_with fail
    refine bodyPost_ret (v := .tuple #[.agg #[.int .i64 0, .int .i64 0, .int .i64 0, .int .i64 0, .int .i64 0, .int .i64 0, .slice none 0 0], .int .i64 6]) (by simp [results, Try.results6, go_sem, d0, d1, d2, d3, d4, d5, d6]) rfl ?_
    refine ⟨rfl, ?_⟩
    repeat refine Below.setCell ?_ (by simp) _
    exact HBE.out
  | false =>
    have HRR := Lib.hid hrr
    clear hrr
    go_wp2_with fail
    generalize w4.alloc (.cells #[.int .i64 base, .int .i64 pid, .int .i64 epoch, .int .i64 seq, .int .i64 kind, .int .i64 time, .slice A4 L.length c4] 24) = w5 at *
    refine HEN.out.mono ?_
    rintro e w6 ⟨rfl, hr6, hg6⟩
    have hrr := (hg6.block w.heap.size (by omega) (fun e => by injection e with e; omega)).trans HRR.out
    have HBE2 := Lib.hid (HBE.out.trans (below_of_grown hg6 (by omega) (by omega)))
    clear HBE
    have HBE := HBE2
    clear HBE2
    have hb6 := (hg6.block w4.heap.size (by omega) (fun e => by injection e with e; omega)).trans HB5.out
    have hpos := hr6.pos
    clear HEN x0 x1 hr6
    by_cases hen : endE l q er = 0
    · have z1 : (((endE l q er : Nat) : Int) != 0) = false := by rw [hen]; rfl
      have hq : er = 0 ∧ ¬ q < l.length := by
        unfold endE at hen
        by_cases h1 : er = 0 ∧ q < l.length
        · rw [if_pos h1] at hen; cases hen
        · rw [if_neg h1] at hen
          exact ⟨hen, fun h2 => h1 ⟨hen, h2⟩⟩
      have hv : V ≠ 0 := fun hv => HNB.out (HSN.out hq.1 (by trivial) (by omega) (HFI.out.1 hv))
      have z2 : (V != 0) = true := by rw [bne_iff_ne]; exact hv
      have hR6 := (HR5.out.grown hg6 (Nat.le_refl _) HA4.out).wider hg6.size
      have m0 : w6.cell? ⟨w4.heap.size, 0, none⟩ = some (.int .i64 base) := cell_of_row _ _ 0 _ _ _ hb6
      have m1 : w6.cell? ⟨w4.heap.size, 1, none⟩ = some (.int .i64 pid) := cell_of_row _ _ 1 _ _ _ hb6
      have m2 : w6.cell? ⟨w4.heap.size, 2, none⟩ = some (.int .i64 epoch) := cell_of_row _ _ 2 _ _ _ hb6
      have m3 : w6.cell? ⟨w4.heap.size, 3, none⟩ = some (.int .i64 seq) := cell_of_row _ _ 3 _ _ _ hb6
      have m4 : w6.cell? ⟨w4.heap.size, 4, none⟩ = some (.int .i64 kind) := cell_of_row _ _ 4 _ _ _ hb6
      have m5 : w6.cell? ⟨w4.heap.size, 5, none⟩ = some (.int .i64 time) := cell_of_row _ _ 5 _ _ _ hb6
      have m6 : w6.cell? ⟨w4.heap.size, 6, none⟩ = some (.slice A4 L.length c4) := cell_of_row _ _ 6 _ _ _ hb6
      have HV := Lib.hid (HVB.out _ hR6)
      have HRR2 := Lib.hid hrr
      have z6 := hg6.size
      clear hb6 HB5 HR5 HVB HSN HFI HNB hrr hR6 hv hq HRR
      go_wp2_with fail
      refine HV.out.mono ?_
      rintro e w7 ⟨rfl, hb7⟩
      have hrr := (hb7.block w.heap.size (by omega)).trans HRR2.out
      have HBE3 := Lib.hid (HBE.out.trans (hb7.mono HBE.out.size))
      clear HBE
      have HBE := HBE3
      clear HBE3 HV m0 m1 m2 m3 m4 m5 m6
      have d0 : w7.cell? ⟨w.heap.size, 0, none⟩ = some (.int .i64 0) := cell_of_row _ _ 0 _ _ _ hrr
      have h0 : w7.frozen? ⟨w.heap.size, 0, none⟩ = false := frozen_of_row _ _ 0 _ _ hrr
      have d1 : w7.cell? ⟨w.heap.size, 1, none⟩ = some (.int .i64 0) := cell_of_row _ _ 1 _ _ _ hrr
      have h1 : w7.frozen? ⟨w.heap.size, 1, none⟩ = false := frozen_of_row _ _ 1 _ _ hrr
      have d2 : w7.cell? ⟨w.heap.size, 2, none⟩ = some (.int .i64 0) := cell_of_row _ _ 2 _ _ _ hrr
      have h2 : w7.frozen? ⟨w.heap.size, 2, none⟩ = false := frozen_of_row _ _ 2 _ _ hrr
      have d3 : w7.cell? ⟨w.heap.size, 3, none⟩ = some (.int .i64 0) := cell_of_row _ _ 3 _ _ _ hrr
      have h3 : w7.frozen? ⟨w.heap.size, 3, none⟩ = false := frozen_of_row _ _ 3 _ _ hrr
      have d4 : w7.cell? ⟨w.heap.size, 4, none⟩ = some (.int .i64 0) := cell_of_row _ _ 4 _ _ _ hrr
      have h4 : w7.frozen? ⟨w.heap.size, 4, none⟩ = false := frozen_of_row _ _ 4 _ _ hrr
      have d5 : w7.cell? ⟨w.heap.size, 5, none⟩ = some (.int .i64 0) := cell_of_row _ _ 5 _ _ _ hrr
      have h5 : w7.frozen? ⟨w.heap.size, 5, none⟩ = false := frozen_of_row _ _ 5 _ _ hrr
      have d6 : w7.cell? ⟨w.heap.size, 6, none⟩ = some (.slice none 0 0) := cell_of_row _ _ 6 _ _ _ hrr
      have h6 : w7.frozen? ⟨w.heap.size, 6, none⟩ = false := frozen_of_row _ _ 6 _ _ hrr
      clear hrr
      go_wp2_with fail
      refine bodyPost_ret (v := .tuple #[.agg #[.int .i64 0, .int .i64 0, .int .i64 0, .int .i64 0, .int .i64 0, .int .i64 0, .slice none 0 0], .int .i64 6]) (by simp [results, Try.results6, go_sem, d0, d1, d2, d3, d4, d5, d6]) rfl ?_
      refine ⟨rfl, ?_⟩
      repeat refine Below.setCell ?_ (by simp) _
      exact HBE.out
    · have z1 : (((endE l q er : Nat) : Int) != 0) = true := by rw [bne_iff_ne]; omega
      clear hb6 HB5 HR5 HVB HSN HFI HNB
      have d0 : w6.cell? ⟨w.heap.size, 0, none⟩ = some (.int .i64 0) := cell_of_row _ _ 0 _ _ _ hrr
      have h0 : w6.frozen? ⟨w.heap.size, 0, none⟩ = false := frozen_of_row _ _ 0 _ _ hrr
      have d1 : w6.cell? ⟨w.heap.size, 1, none⟩ = some (.int .i64 0) := cell_of_row _ _ 1 _ _ _ hrr
      have h1 : w6.frozen? ⟨w.heap.size, 1, none⟩ = false := frozen_of_row _ _ 1 _ _ hrr
      have d2 : w6.cell? ⟨w.heap.size, 2, none⟩ = some (.int .i64 0) := cell_of_row _ _ 2 _ _ _ hrr
      have h2 : w6.frozen? ⟨w.heap.size, 2, none⟩ = false := frozen_of_row _ _ 2 _ _ hrr
      have d3 : w6.cell? ⟨w.heap.size, 3, none⟩ = some (.int .i64 0) := cell_of_row _ _ 3 _ _ _ hrr
      have h3 : w6.frozen? ⟨w.heap.size, 3, none⟩ = false := frozen_of_row _ _ 3 _ _ hrr
      have d4 : w6.cell? ⟨w.heap.size, 4, none⟩ = some (.int .i64 0) := cell_of_row _ _ 4 _ _ _ hrr
      have h4 : w6.frozen? ⟨w.heap.size, 4, none⟩ = false := frozen_of_row _ _ 4 _ _ hrr
      have d5 : w6.cell? ⟨w.heap.size, 5, none⟩ = some (.int .i64 0) := cell_of_row _ _ 5 _ _ _ hrr
      have h5 : w6.frozen? ⟨w.heap.size, 5, none⟩ = false := frozen_of_row _ _ 5 _ _ hrr
      have d6 : w6.cell? ⟨w.heap.size, 6, none⟩ = some (.slice none 0 0) := cell_of_row _ _ 6 _ _ _ hrr
      have h6 : w6.frozen? ⟨w.heap.size, 6, none⟩ = false := frozen_of_row _ _ 6 _ _ hrr
      clear hrr
      go_wp2_with fail
      refine bodyPost_ret (v := .tuple #[.agg #[.int .i64 0, .int .i64 0, .int .i64 0, .int .i64 0, .int .i64 0, .int .i64 0, .slice none 0 0], .int .i64 6]) (by simp [results, Try.results6, go_sem, d0, d1, d2, d3, d4, d5, d6]) rfl ?_
      refine ⟨rfl, ?_⟩
      repeat refine Below.setCell ?_ (by simp) _
      exact HBE.out
end Go.Proofs.Ytniopekkfnkipaa
namespace Go.Proofs.Ytniopekkfnkipaa
open Go.RowKit
set_option linter.unusedVariables false
set_option linter.unusedSimpArgs false

/-- the bytes l are read as the batch b up to e -/
structure BatTo (l : List UInt8) (b : Bat) (e : Nat) : Prop where
  fine : Fine b
  at_ : ∃ q, HeadAt l (markB b) b.base.toNat b.pid.toNat b.epoch.toNat b.seq.toNat b.kind.toNat b.time.toNat q ∧ (markB b = true → b.L = [] ∧ q = e) ∧
    (markB b = false → ∃ P : Nat → Nat, dUint l q = .ok (.int .u64 (b.L.length : Int)) (P 0) ∧ P b.L.length = e ∧ ∀ k, k < b.L.length → RecAt l b.time (prevKey b.L k) (P k) (b.L.getD k default) (P (k + 1)))
theorem batTo_one {l : List UInt8} {a b : Bat} {e e' : Nat} (ha : BatTo l a e) (hb : BatTo l b e') : e = e' := by
  have A := ha.fine
  have B := hb.fine
  obtain ⟨q, h1, h2, h3⟩ := ha.at_
  obtain ⟨q', g1, g2, g3⟩ := hb.at_
  obtain ⟨p3, p4, p5, p6, a1, a2, a3, a4, a5, a6, a7⟩ := h1.at_
  obtain ⟨p3', p4', p5', p6', b1, b2, b3, b4, b5, b6, b7⟩ := g1.at_
  have x1 := A.b1; have x2 := A.p1; have x3 := A.e1; have x4 := A.s1; have x5 := A.k1; have x6 := A.t1
  have y1 := B.b1; have y2 := B.p1; have y3 := B.e1; have y4 := B.s1; have y5 := B.k1; have y6 := B.t1
  rw [a2] at b2
  have ck : a.kind = b.kind := by have := int_inj (ok_inj b2).1; omega
  rw [a3] at b3
  obtain ⟨c3, rfl⟩ := ok_inj b3
  have cb : a.base = b.base := by have := int_inj c3; omega
  rw [a4] at b4
  obtain ⟨c4, rfl⟩ := ok_inj b4
  have cp : a.pid = b.pid := by have := int_inj c4; omega
  have cm : markB a = markB b := by unfold markB; rw [ck]
  have mid : a.epoch = b.epoch ∧ a.seq = b.seq ∧ p6 = p6' := by
    by_cases hp : a.pid = 0
    · obtain ⟨u1, u2, u3⟩ := a5 (by omega)
      obtain ⟨v1, v2, v3⟩ := b5 (by omega)
      exact ⟨by omega, by omega, by omega⟩
    · obtain ⟨u1, u2, u3⟩ := a6 (by omega)
      obtain ⟨v1, v2, v3⟩ := b6 (by omega)
      rw [u1] at v1
      obtain ⟨c5, rfl⟩ := ok_inj v1
      have ce := int_inj c5
      cases hm : markB a with
      | true =>
        obtain ⟨w1, w2⟩ := u2 hm
        obtain ⟨z1, z2⟩ := v2 (by rw [← cm]; exact hm)
        exact ⟨by omega, by omega, by omega⟩
      | false =>
        have w1 := u3 hm
        have z1 := v3 (by rw [← cm]; exact hm)
        rw [w1] at z1
        obtain ⟨c6, rfl⟩ := ok_inj z1
        have cs := int_inj c6
        exact ⟨by omega, by omega, rfl⟩
  obtain ⟨ce, cs, rfl⟩ := mid
  rw [a7] at b7
  obtain ⟨c7, rfl⟩ := ok_inj b7
  have ct : a.time = b.time := by have := int_inj c7; omega
  cases hm : markB a with
  | true => rw [← (h2 hm).2, ← (g2 (by rw [← cm]; exact hm)).2]
  | false =>
      obtain ⟨P, u1, u2, u3⟩ := h3 hm
      obtain ⟨P', v1, v2, v3⟩ := g3 (by rw [← cm]; exact hm)
      rw [u1] at v1
      obtain ⟨c8, hP⟩ := ok_inj v1
      have cl : a.L.length = b.L.length := by have := int_inj c8; omega
      have key : ∀ k, k ≤ a.L.length → P k = P' k ∧ prevKey a.L k = prevKey b.L k ∧ ∀ j, j < k → a.L.getD j default = b.L.getD j default := by
        intro k
        induction k with
        | zero => intro _; exact ⟨hP, rfl, fun j hj => absurd hj (by omega)⟩
        | succ k ih =>
          intro hk
          obtain ⟨i1, i2, i3⟩ := ih (by omega)
          have r1 := u3 k (by omega)
          have r2 := v3 k (by omega)
          rw [i1, i2, ct] at r1
          obtain ⟨s1, s2⟩ := recAt_one r1 r2
          refine ⟨s2, ?_, fun j hj => ?_⟩
          · show (a.L.getD k default).key = (b.L.getD k default).key
            rw [s1]
          · rcases Nat.lt_or_ge j k with g | g
            · exact i3 j g
            · rw [show j = k from by omega]; exact s1
      have k1 := (key a.L.length (Nat.le_refl _)).1
      rw [← u2, ← v2, k1, cl]
theorem batTo_enc (b : Bat) (hF : Fine b) (post : List UInt8) : BatTo (encB b ++ post) b (encB b).length := by
  obtain ⟨f1, f2, f3⟩ := fine_form b hF
  have a1 := hF.b1; have a2 := hF.b2; have a3 := hF.p1; have a4 := hF.p2; have a5 := hF.e1; have a6 := hF.e2; have a7 := hF.s1; have a8 := hF.s2; have a9 := hF.k1; have a10 := hF.k2; have a11 := hF.t1; have a12 := hF.t2
  have hh := fun post => headAt_enc (markB b) b.base.toNat b.pid.toNat b.epoch.toNat b.seq.toNat b.kind.toNat b.time.toNat post (by omega) (by omega) (by omega) (by omega) (by omega) (by omega) (fun h => by have := f1 (by omega); omega) (fun h => by have := (f2 h).1; omega)
  refine ⟨hF, (headOf b).length, ?_, fun hm => ⟨(f2 hm).2, ?_⟩, fun hm => ?_⟩
  · unfold encB
    by_cases hm : markB b = true
    · rw [if_pos hm]
      exact hh _
    · rw [if_neg hm, List.append_assoc, List.append_assoc]
      exact hh _
  · unfold encB
    rw [if_pos hm]
  · have he : encB b = headOf b ++ (Wn.enc b.L.length ++ (rowsS b.L b.time b.L.length).flatten) := by
      unfold encB
      rw [if_neg (by rw [hm]; decide), List.append_assoc]
    refine ⟨fun k => (headOf b ++ Wn.enc b.L.length ++ (rowsS b.L b.time k).flatten).length, ?_, ?_, fun k hk => ?_⟩
    · rw [he, List.append_assoc, List.append_assoc, dUint_at _ _ _ (by have := hF.len; omega)]
      simp [rowsS]
    · show (headOf b ++ Wn.enc b.L.length ++ (rowsS b.L b.time b.L.length).flatten).length = _
      rw [he, List.append_assoc]
    · have hr : recE (b.L.getD k default) = 0 := hF.recs _ (by rw [List.getD_eq_getElem?_getD, List.getElem?_eq_getElem hk]; exact List.getElem_mem _)
      obtain ⟨post2, hpost⟩ := rowsS_take b.L b.time (k + 1) hk
      have hs : (rowsS b.L b.time (k + 1)).flatten = (rowsS b.L b.time k).flatten ++ recS (b.L.getD k default) b.time (prevKey b.L k) := by rw [rowsS_succ, List.flatten_append]; simp
      have hl : encB b ++ post = (headOf b ++ Wn.enc b.L.length ++ (rowsS b.L b.time k).flatten) ++ (recS (b.L.getD k default) b.time (prevKey b.L k) ++ (post2 ++ post)) := by
        rw [he, hpost, hs]
        simp only [List.append_assoc]
      have := recAt_enc (headOf b ++ Wn.enc b.L.length ++ (rowsS b.L b.time k).flatten) (post2 ++ post) b.time (prevKey b.L k) (b.L.getD k default) hr hF.t1 hF.t2
      rw [← hl] at this
      show RecAt _ _ _ _ _ (headOf b ++ Wn.enc b.L.length ++ (rowsS b.L b.time (k + 1)).flatten).length
      rw [hs, ← List.append_assoc]
      exact this


theorem encB_prefix {a b : Bat} {rest : List UInt8} (ha : Fine a) (hb : Fine b) (h : encB b = encB a ++ rest) : rest = [] := by
  have h1 := batTo_enc a ha rest
  have h2 := batTo_enc b hb []
  rw [List.append_nil, h] at h2
  have h3 := batTo_one h1 h2
  rw [List.length_append] at h3
  exact List.length_eq_zero_iff.1 (by omega)
/-- bytes that are a batch's, cut short, are none -/
theorem short_none {l : List UInt8} {b : Bat} {k : Nat} (h : BatAt l b) (hk : k < l.length) (b' : Bat) : ¬ BatAt (l.take k) b' := fun h' => by
  have h1 := bat_strict h
  have h2 := bat_strict h'
  have h3 : encB b = encB b' ++ l.drop k := by rw [← h1, ← h2, List.take_append_drop]
  have h4 := encB_prefix h'.fine h.fine h3
  have := congrArg List.length h4
  rw [List.length_drop] at this
  simp at this
  omega
end Go.Proofs.Ytniopekkfnkipaa
