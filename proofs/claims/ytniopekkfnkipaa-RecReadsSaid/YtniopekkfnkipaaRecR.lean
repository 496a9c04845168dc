/-
  What rec.record does.
-/
import Derived.Test.YtniopekkfnkipaaRecH
namespace Go.Proofs.Ytniopekkfnkipaa
open Go.RowKit
set_option linter.unusedVariables false
set_option linter.unusedSimpArgs false

/-- a record's bytes behind one with the key last -/
def recS (r : Rec) (time : Int) (last : ByteArray) : List UInt8 :=
  Wn.enc (Wn.zig (r.time - time)) ++ encF_ r.gone ++ Wn.enc (comm last.data.toList r.key.data.toList) ++ encT (r.key.extract (comm last.data.toList r.key.data.toList) r.key.size) ++ (if r.gone then [] else encT r.value)

theorem lt_al (w : World) (o : Obj) : w.heap.size < (w.alloc o).drew.heap.size := by simp
theorem lt_al2 (w : World) (o : Obj) : w.heap.size < (w.alloc o).heap.size := by simp

set_option maxRecDepth 100000 in
set_option maxHeartbeats 4000000 in
theorem record_any (r : Rec) (time : Int) (last : ByteArray) (w : World) (hk : r.key.size ≤ 1024) (hv : r.value.size ≤ 1024) (hl : last.size ≤ 1024) (t1 : 0 ≤ r.time) (t2 : r.time ≤ 1099511627776) (t3 : 0 ≤ time) (t4 : time ≤ 1099511627776) :
    Calls Try.prog 27 #[.agg r.cells.toArray, .int .i64 time, .string last] w fun e w' => ∃ v, e = .returned v ∧ Own w' w.heap.size v (recS r time last) ∧ Below w.heap.size w w' := by
  obtain ⟨i0, qi0, qz0, qz1, qz2⟩ := info_parts byte_info
  obtain ⟨key, value, gone, rt⟩ := r
  simp only [Rec.cells] at *
  have HS : Hid (recS ⟨key, value, gone, rt⟩ time last = Wn.enc (Wn.zig (rt - time)) ++ encF_ gone ++ Wn.enc (comm last.data.toList key.data.toList) ++ encT (key.extract (comm last.data.toList key.data.toList) key.size) ++ (if gone then [] else encT value)) := rfl
  generalize recS ⟨key, value, gone, rt⟩ time last = rs at *
  have HC : Hid (∀ W, Calls Try.prog 51 #[.string last, .string key] W fun e w' => e = .returned (.int .i64 (comm last.data.toList key.data.toList : Nat)) ∧ ∃ q, w' = W.drewN q) := fun W => common_any last key W (by omega) (by omega)
  have hcm := (comm_le last.data.toList key.data.toList).2
  rw [Array.length_toList] at hcm
  have hcm' : comm last.data.toList key.data.toList ≤ key.size := hcm
  clear hcm
  generalize comm last.data.toList key.data.toList = n at *
  have H1 : Hid (∀ W, Calls Try.prog 52 #[.int .i64 (rt - time)] W fun e w' => ∃ v', e = .returned v' ∧ Own w' W.heap.size v' (Wn.enc (Wn.zig (rt - time))) ∧ Below W.heap.size W w') := fun W => wInt_any (rt - time) W (by omega) (by omega)
  have H2 : Hid (∀ W, Calls Try.prog 53 #[.bool gone] W fun e w' => ∃ v', e = .returned v' ∧ Own w' W.heap.size v' (encF_ gone) ∧ Below W.heap.size W w') := fun W => wFlag_any gone W
  have H3 : Hid (∀ (W : World) (a : Addr) (c : Nat), W.cell? a = some (.int .i64 (n : Int)) → Calls Try.prog 26 #[.slice (some a) 1 c] W fun e w' => ∃ v', e = .returned v' ∧ Own w' W.heap.size v' (Wn.enc n) ∧ Below W.heap.size W w') := fun W a c h => numI1 a c n W h (by omega)
  have hxs : (key.extract n key.size).size ≤ 1024 := by rw [ByteArray.size_extract]; omega
  have H4 : Hid (∀ W, Calls Try.prog 54 #[.string (key.extract n key.size)] W fun e w' => ∃ v', e = .returned v' ∧ Own w' W.heap.size v' (encT (key.extract n key.size)) ∧ Below W.heap.size W w') := fun W => wText_any _ W (by omega)
  have H5 : Hid (∀ W, Calls Try.prog 54 #[.string value] W fun e w' => ∃ v', e = .returned v' ∧ Own w' W.heap.size v' (encT value) ∧ Below W.heap.size W w') := fun W => wText_any _ W (by omega)
  have l1 : (Wn.enc (Wn.zig (rt - time))).length ≤ 1000 := by have := (Wn.enc_len (Wn.zig (rt - time))).2; omega
  have l2 : (encF_ gone).length ≤ 1000 := by unfold encF_; split <;> simp
  have l3 : (Wn.enc n).length ≤ 1000 := by have := (Wn.enc_len n).2; omega
  have l4 : (encT (key.extract n key.size)).length ≤ 2000 := by have := encT_len (key.extract n key.size); omega
  have l5 : (encT value).length ≤ 2000 := by have := encT_len value; omega
  generalize Wn.enc (Wn.zig (rt - time)) = b1 at *
  generalize encF_ gone = b2 at *
  generalize Wn.enc n = b3 at *
  generalize encT (key.extract n key.size) = b4 at *
  generalize encT value = b5 at *
  have hww : IntKind.i64.wrap (rt - time) = rt - time := IntWalk.i64_in _ (by omega)
  have g1 : (0 : Int) ≤ (n : Int) := by omega
  have g2 : (n : Int) ≤ (key.size : Int) := by omega
  go_enter Try.func27, Try.ntmps27
  have HWW := Lib.hid hww
  clear hww
  go_wp2_with fail
  refine (HC.out _).mono ?_
  rintro e w0 ⟨rfl, q, rfl⟩
  clear HC
  have hk0 := heap_alloc_new w (.cells #[.string key, .string value, .bool gone, .int .i64 rt] 40)
  have HW := Lib.hid (below_draws ((Below.refl w.heap.size w).alloc (Nat.le_refl _) (.cells #[.string key, .string value, .bool gone, .int .i64 rt] 40)) q)
  have hz1 : w.heap.size + 1 ≤ ((w.alloc (.cells #[.string key, .string value, .bool gone, .int .i64 rt] 40)).drewN q).heap.size := by simp
  have hk1 : ((w.alloc (.cells #[.string key, .string value, .bool gone, .int .i64 rt] 40)).drewN q).heap[w.heap.size]? = some (.cells #[.string key, .string value, .bool gone, .int .i64 rt] 40 (0, 0)) := hk0
  generalize (w.alloc (.cells #[.string key, .string value, .bool gone, .int .i64 rt] 40)).drewN q = w1 at *
  have HK := Lib.hid hk1
  have c0 : w1.cell? ⟨w.heap.size, 0, none⟩ = some (.string key) := cell_of_row w1 _ 0 _ _ _ hk1
  have c2 : w1.cell? ⟨w.heap.size, 2, none⟩ = some (.bool gone) := cell_of_row w1 _ 2 _ _ _ hk1
  have c3 : w1.cell? ⟨w.heap.size, 3, none⟩ = some (.int .i64 rt) := cell_of_row w1 _ 3 _ _ _ hk1
  clear hk0 hk1
  go_upto_region 2 with fail
  go_cut [8] (fun s8 wx => ∃ v, s8 = v ∧ Own wx w1.heap.size v (b1 ++ b2 ++ b3 ++ b4) ∧ Below w1.heap.size w1 wx)
  case first =>
    have hww := HWW.out
    go_region_held3 (fun w' => w'.cell? ⟨w.heap.size, 0, none⟩ = some (.string key) ∧ w'.cell? ⟨w.heap.size, 2, none⟩ = some (.bool gone) ∧ w'.cell? ⟨w.heap.size, 3, none⟩ = some (.int .i64 rt)) (first | exact ⟨c0, c2, c3⟩ | exact ⟨k20, k22, k23⟩ | exact ⟨k30, k32, k33⟩ | exact ⟨k40, k42, k43⟩ | exact ⟨k50, k52, k53⟩ | exact ⟨k60, k62, k63⟩ | go_keep)
      (first
        | (go_at_call 52; refine (H1.out _).mono ?_; rintro e w2 ⟨v2, rfl, ho2, hb2⟩; obtain ⟨A2, c2c, rfl, hc2, hm2, hbs2, _, _⟩ := ho2.form; have k20 := (hb2.cell (p := ⟨w.heap.size, 0, none⟩) (by simp; omega)); have k22 := (hb2.cell (p := ⟨w.heap.size, 2, none⟩) (by simp; omega)); have k23 := (hb2.cell (p := ⟨w.heap.size, 3, none⟩) (by simp; omega)); simp [c0, c2, c3, World.cell?_alloc_some] at k20 k22 k23; have hQ2 : Below w1.heap.size w1 w2 := (by first | exact ((Below.refl _ _).drew).trans (hb2.mono (by simp)) | exact (((Below.refl _ _).alloc (Nat.le_refl _) _).drew).trans (hb2.mono (by simp))); have hz2 : w.heap.size + 1 ≤ w2.heap.size := Nat.le_trans hz1 hQ2.size; (first | (have d2 := fun o => (bcell hb2).1 w1.heap.size o (lt_al _ _)) | skip))
        | (go_at_call 53; refine (H2.out _).mono ?_; rintro e w3 ⟨v3, rfl, ho3, hb3⟩; obtain ⟨A3, c3c, rfl, hc3, hm3, hbs3, _, _⟩ := ho3.form; have k30 := (hb3.cell (p := ⟨w.heap.size, 0, none⟩) (by simp; omega)); have k32 := (hb3.cell (p := ⟨w.heap.size, 2, none⟩) (by simp; omega)); have k33 := (hb3.cell (p := ⟨w.heap.size, 3, none⟩) (by simp; omega)); simp [k20, k22, k23, World.cell?_alloc_some] at k30 k32 k33; have hQ3 : Below w2.heap.size w2 w3 := (by first | exact hb3 | exact ((Below.refl _ _).alloc (Nat.le_refl _) _).trans (hb3.mono (by simp))); have hz3 : w.heap.size + 1 ≤ w3.heap.size := Nat.le_trans hz2 hQ3.size; (first | (have d3 := fun o => (bcell hb3).1 w2.heap.size o (lt_al2 _ _)) | skip); (first | (have f3 := fun o => (bcell hb3).1 w1.heap.size o (by have := hb2.size; simp at this ⊢; omega)) | skip))
        | (go_at_call 26; refine Calls.mono (H3.out _ _ _ ?_) ?_ <;> first | (rintro e w4 ⟨v4, rfl, ho4, hb4⟩; obtain ⟨A4, c4c, rfl, hc4, hm4, hbs4, _, _⟩ := ho4.form; have k40 := (hb4.cell (p := ⟨w.heap.size, 0, none⟩) (by simp; omega)); have k42 := (hb4.cell (p := ⟨w.heap.size, 2, none⟩) (by simp; omega)); have k43 := (hb4.cell (p := ⟨w.heap.size, 3, none⟩) (by simp; omega)); simp [k30, k32, k33, World.cell?_alloc_some] at k40 k42 k43; have hQ4 : Below w3.heap.size w3 w4 := (by first | exact hb4 | exact ((Below.refl _ _).alloc (Nat.le_refl _) _).trans (hb4.mono (by simp))); have hz4 : w.heap.size + 1 ≤ w4.heap.size := Nat.le_trans hz3 hQ4.size) | (simp [World.cell?_alloc_some]; done) | (simp [World.cell?_alloc_some, d3]; done) | (simp [World.cell?_alloc_some, f3, d2]; done))
        | (go_at_call 54; refine (H4.out _).mono ?_; rintro e w5 ⟨v5, rfl, ho5, hb5⟩; obtain ⟨A5, c5c, rfl, hc5, hm5, hbs5, _, _⟩ := ho5.form; have k50 := (hb5.cell (p := ⟨w.heap.size, 0, none⟩) (by simp; omega)); have k52 := (hb5.cell (p := ⟨w.heap.size, 2, none⟩) (by simp; omega)); have k53 := (hb5.cell (p := ⟨w.heap.size, 3, none⟩) (by simp; omega)); simp [k40, k42, k43, World.cell?_alloc_some] at k50 k52 k53; have hQ5 : Below w4.heap.size w4 w5 := (by first | exact hb5 | exact ((Below.refl _ _).alloc (Nat.le_refl _) _).trans (hb5.mono (by simp))); have hz5 : w.heap.size + 1 ≤ w5.heap.size := Nat.le_trans hz4 hQ5.size; have hs4 := (hbs4.below hQ5).wider hQ5.size; have hs3 := ((hbs3.below hQ4).wider hQ4.size |>.below hQ5).wider hQ5.size; have hs2 := (((hbs2.below hQ3).wider hQ3.size |>.below hQ4).wider hQ4.size |>.below hQ5).wider hQ5.size)
        | (go_at_call 28; refine Calls.mono (join4 (A1 := A2) (A2 := A3) (A3 := A4) (A4 := A5) (l1 := b1) (l2 := b2) (l3 := b3) (l4 := b4) ?_ ?_ ?_ ?_ ?_ ?_ ?_ ?_ hc2 hm2 hc3 hm3 hc4 hm4 hc5 hm5 (by omega) (by omega) (by omega) (by omega)) ?_ <;> first | (rintro e w6 ⟨v6, rfl, ho6, hb6⟩; have k60 := (hb6.cell (p := ⟨w.heap.size, 0, none⟩) (by simp; omega)); have k62 := (hb6.cell (p := ⟨w.heap.size, 2, none⟩) (by simp; omega)); have k63 := (hb6.cell (p := ⟨w.heap.size, 3, none⟩) (by simp; omega)); simp [k50, k52, k53, World.cell?_alloc_some] at k60 k62 k63; have hQ6 : Below w5.heap.size w5 w6 := ((Below.refl _ _).alloc (Nat.le_refl _) _).trans (hb6.mono (by simp))) | (simp [World.cell?_alloc_some]; done) | (exact ((hs2.alloc (Nat.le_refl _) _).wider (by simp))) | (exact ((hs3.alloc (Nat.le_refl _) _).wider (by simp))) | (exact ((hs4.alloc (Nat.le_refl _) _).wider (by simp))) | (exact ((hbs5.alloc (Nat.le_refl _) _).wider (by simp)))))
    all_goals
      go_wp2_with fail
      go_meet
      exact ⟨_, rfl, ho6.base_le (by have := hQ2.size; have := hQ3.size; have := hQ4.size; have := hQ5.size; simp; omega), (((hQ2.trans (hQ3.mono hQ2.size)).trans (hQ4.mono (Nat.le_trans hQ2.size hQ3.size))).trans (hQ5.mono (Nat.le_trans (Nat.le_trans hQ2.size hQ3.size) hQ4.size))).trans (hQ6.mono (Nat.le_trans (Nat.le_trans (Nat.le_trans hQ2.size hQ3.size) hQ4.size) hQ5.size))⟩
  case rest =>
    obtain ⟨v, rfl, ho0, hB0⟩ := hcut
    have hle0 : (b1 ++ b2 ++ b3 ++ b4).length ≤ 6000 := by simp only [List.length_append]; omega
    obtain ⟨a0, ha0⟩ : ∃ a0, b1 ++ b2 ++ b3 ++ b4 = a0 := ⟨_, rfl⟩
    rw [ha0] at ho0 hle0 HS
    have HO0 := Lib.hid ho0
    have hkk := (hB0.block w.heap.size (by omega)).trans HK.out
    clear ha0 ho0 c0 c2 c3
    have hz0 := hB0.size
    have c1 : wc.cell? ⟨w.heap.size, 1, none⟩ = some (.string value) := cell_of_row wc _ 1 _ _ _ hkk
    have c2 : wc.cell? ⟨w.heap.size, 2, none⟩ = some (.bool gone) := cell_of_row wc _ 2 _ _ _ hkk
    clear hkk
    cases gone with
    | true =>
      go_wp2_with fail
      go_ret
      exact ⟨_, rfl, by rw [HS.out]; simp only [if_true, reduceIte, List.append_nil]; exact HO0.out.base_le HW.out.size, HW.out.trans (hB0.mono HW.out.size)⟩
    | false =>
      go_wp2_with fail
      refine (H5.out _).mono ?_
      rintro e w7 ⟨v7, rfl, ho7, hb7⟩
      have ho0' := HO0.out.below hb7 (Nat.le_refl _)
      obtain ⟨A7, c7, rfl, hc7, hm7, hbs7, _, _⟩ := ho7.form
      have hB7 := hB0.trans (hb7.mono hz0)
      have hz7 := hB7.size
      obtain ⟨m7, hm7'⟩ : ∃ m, b5.length = m := ⟨_, rfl⟩
      have HM7 := Lib.hid hm7'
      rw [hm7'] at hbs7 hc7 l5
      rw [hm7']
      clear hm7' ho7 hb7
      go_wp2_with (at_builtin; refine wpList_append_src _ rfl (.tmp 34) (.tmp 37) 25 rfl w1.heap.size 5 i0 _ 1 Try.underlying25 qi0 qz0 qz1 qz2 rfl _ a0.length (bvs a0) rfl ho0' w7.heap.size A7 m7 c7 (bvs b5) rfl ?ha hbs7.lies (bvs_one _) ?hb ?hc ?hd ?_)
      case ha => rw [bvs_length]; exact HM7.out
      case hb => unfold maxLen; omega
      case hc => omega
      case hd => exact hz7
      intro v8 w8 hwn8 hgr8 _
      have hob8 : Own w8 w1.heap.size v8 (a0 ++ b5) := by
        unfold Own
        rw [bvs_append, List.length_append, HM7.out]
        exact hwn8
      have hB8 := hB7.trans (grown_below ho0' hgr8 hz7)
      clear hwn8 hgr8 ho0' hbs7
      go_wp2_with fail
      go_ret
      exact ⟨_, rfl, by rw [HS.out]; simp only [if_false, reduceIte, Bool.false_eq_true]; exact hob8.base_le HW.out.size, HW.out.trans (hB8.mono HW.out.size)⟩
end Go.Proofs.Ytniopekkfnkipaa
