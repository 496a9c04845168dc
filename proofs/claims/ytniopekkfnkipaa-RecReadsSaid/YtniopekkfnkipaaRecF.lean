/-
  What rec.Encode does.
-/
import Derived.Test.YtniopekkfnkipaaRecE
namespace Go.Proofs.Ytniopekkfnkipaa
open Go.RowKit
set_option linter.unusedVariables false
set_option linter.unusedSimpArgs false

theorem slice_info' : (Try.prog.info? 25).map (fun i => (i.zero, i.size, i.bytes)) = some (some (.slice none 0 0), 1, 24) := by kernel_rfl
/-- two rows in a new block -/
theorem OwnR.two {w : World} {base : Nat} {A1 A2 : Option Addr} {c1 c2 : Nat} {l1 l2 : List UInt8} (hb : base ≤ w.heap.size) (h1 : Bs w w.heap.size A1 l1.length l1) (k1 : l1.length ≤ c1) (m1 : c1 ≤ maxLen) (h2 : Bs w w.heap.size A2 l2.length l2) (k2 : l2.length ≤ c2) (m2 : c2 ≤ maxLen) :
    OwnR (w.alloc (.cells #[.slice A1 l1.length c1, .slice A2 l2.length c2] 25)) base (.slice (some ⟨w.heap.size, 0, none⟩) 2 2) [l1, l2] := by
  refine ⟨[.slice A1 l1.length c1, .slice A2 l2.length c2], ⟨rfl, .inr ⟨w.heap.size, 2, #[.slice A1 l1.length c1, .slice A2 l2.length c2], rfl, hb, heap_alloc_new w _, Nat.le_refl _, by unfold maxLen; omega, rfl, rfl⟩⟩, fun k hk => ?_⟩
  have far : ∀ {A : Option Addr} {l : List UInt8}, Bs w w.heap.size A l.length l → ∀ p, A = some p → l ≠ [] → some p.block ≠ (Value.slice (some ⟨w.heap.size, 0, none⟩) 2 2).ownBlock := by
    intro A l h p hp hl e
    have := h.block_lt hl p hp
    simp only [Value.ownBlock, Option.some.injEq] at e
    omega
  rcases Nat.lt_or_ge k 1 with g | g
  · obtain rfl : k = 0 := by omega
    exact ⟨A1, c1, rfl, k1, m1, (h1.alloc (Nat.le_refl _) _).wider (by simp), far h1⟩
  · obtain rfl : k = 1 := by simp at hk; omega
    exact ⟨A2, c2, rfl, k2, m2, (h2.alloc (Nat.le_refl _) _).wider (by simp), far h2⟩
theorem rowsS_each (L : List Rec) (time : Int) (h : ∀ r ∈ L, recE r = 0) (k : Nat) (hk : k ≤ L.length) : (rowsS L time k).flatten.length ≤ k * 4000 := by
  induction k with
  | zero => simp [rowsS]
  | succ k ih =>
    have h1 := ih (by omega)
    rw [rowsS_succ, List.flatten_append, List.length_append]
    have h2 : recE (L.getD k default) = 0 := h _ (by rw [List.getD_eq_getElem?_getD, List.getElem?_eq_getElem (by omega)]; exact List.getElem_mem _)
    obtain ⟨a1, a2, _⟩ := recE_zero h2
    have h3 := recS_len (L.getD k default) time (prevKey L k) a1 a2
    generalize recS (L.getD k default) time (prevKey L k) = x at *
    generalize (rowsS L time k).flatten = y at *
    simp only [List.flatten_cons, List.flatten_nil, List.append_nil]
    omega

set_option maxRecDepth 100000 in
set_option maxHeartbeats 4000000 in
theorem encode_no (b : Bat) (A : Option Addr) (c B : Nat) (w : World) (hL : Rcs w B A b.L.length b.L) (hB : B ≤ w.heap.size) (hl : b.L.length ≤ maxLen) (hv : validE b ≠ 0) :
    Calls Try.prog 9 #[.agg (b.cells A c)] w fun e w' => e = .returned (.tuple #[.slice none 0 0, .int .i64 (validE b)]) ∧ Below w.heap.size w w' := by
  have HV : Hid (Calls Try.prog 20 #[.agg (b.cells A c)] (w.alloc (.cells (b.cells A c) 24)) fun e w' => e = .returned (.int .i64 (validE b)) ∧ Below (w.alloc (.cells (b.cells A c) 24)).heap.size (w.alloc (.cells (b.cells A c) 24)) w') :=
    valid_any b A c B _ (hL.below ((Below.refl _ _).alloc hB _)) (by simp; omega) hl
  have hne : (validE b != 0) = true := by simpa using hv
  generalize validE b = V at *
  obtain ⟨base, pid, epoch, seq, kind, time, L⟩ := b
  unfold Bat.cells at *
  simp only at *
  clear hL hv
  go_enter Try.func9, Try.ntmps9
  go_wp2_with (go_at_call 20; refine HV.out.mono ?_; rintro e w1 ⟨rfl, hb1⟩)
  go_ret2
  exact ⟨rfl, ((Below.refl _ _).alloc (Nat.le_refl _) _).trans (hb1.mono (by simp))⟩

set_option maxRecDepth 100000 in
set_option maxHeartbeats 4000000 in
theorem encode_yes (b : Bat) (A : Option Addr) (c B : Nat) (w : World) (hL : Rcs w B A b.L.length b.L) (hB : B ≤ w.heap.size) (hF : Fine b) :
    Calls Try.prog 9 #[.agg (b.cells A c)] w fun e w' => ∃ v, e = .returned (.tuple #[v, .int .i64 0]) ∧ Own w' w.heap.size v (encB b) ∧ Below w.heap.size w w' := by
  obtain ⟨j0, qj0, qy0, qy1, qy2⟩ := info_parts slice_info'
  have hv0 := (fine_iff b).2 hF
  have hlen := hF.len
  have HVa : Hid (∀ W, Below w.heap.size w W → Calls Try.prog 20 #[.agg (b.cells A c)] W fun e w' => e = .returned (.int .i64 0) ∧ Below W.heap.size W w') := fun W h => by
    have := valid_any b A c B W (hL.below (h.mono hB)) (Nat.le_trans hB h.size) (by unfold maxLen; omega)
    rw [hv0] at this
    exact this
  have HMa : Hid (∀ W, Calls Try.prog 24 #[.agg (b.cells A c)] W fun e w' => e = .returned (.bool (markB b)) ∧ Below W.heap.size W w') := fun W => marker_any b A c W
  have HHd : Hid (∀ W, Calls Try.prog 25 #[.agg (b.cells A c)] W fun e w' => ∃ v, e = .returned v ∧ Own w' W.heap.size v (headOf b) ∧ Below W.heap.size W w') := fun W => by
    have a1 := hF.b1; have a2 := hF.b2; have a3 := hF.p1; have a4 := hF.p2; have a5 := hF.e1; have a6 := hF.e2; have a7 := hF.s1; have a8 := hF.s2; have a9 := hF.k1; have a10 := hF.k2; have a11 := hF.t1; have a12 := hF.t2
    have e1 : ((b.base.toNat : Nat) : Int) = b.base := by omega
    have e2 : ((b.pid.toNat : Nat) : Int) = b.pid := by omega
    have e3 : ((b.epoch.toNat : Nat) : Int) = b.epoch := by omega
    have e4 : ((b.seq.toNat : Nat) : Int) = b.seq := by omega
    have e5 : ((b.kind.toNat : Nat) : Int) = b.kind := by omega
    have e6 : ((b.time.toNat : Nat) : Int) = b.time := by omega
    have := head_any (markB b) b.base.toNat b.pid.toNat b.epoch.toNat b.seq.toNat b.kind.toNat b.time.toNat b.L.length c A W (by omega) (by omega) (by omega) (by omega) (by omega) (by omega) (by rw [e5]; rfl)
    rw [e1, e2, e3, e4, e5, e6] at this
    exact this
  have HR : Hid (∀ (W : World) (k : Nat), k < b.L.length → Calls Try.prog 27 #[.agg (b.L.getD k default).cells.toArray, .int .i64 b.time, .string (prevKey b.L k)] W fun e w' => ∃ v, e = .returned v ∧ Own w' W.heap.size v (recS (b.L.getD k default) b.time (prevKey b.L k)) ∧ Below W.heap.size W w') := fun W k hk => by
    have hm : ∀ j, j < b.L.length → recE (b.L.getD j default) = 0 := fun j hj => hF.recs _ (by rw [List.getD_eq_getElem?_getD, List.getElem?_eq_getElem hj]; exact List.getElem_mem _)
    obtain ⟨x1, x2, x3, x4, _⟩ := recE_zero (hm k hk)
    refine record_any _ _ _ W x1 x2 ?_ x3 x4 hF.t1 hF.t2
    cases k with
    | zero => show (0 : Nat) ≤ 1024; omega
    | succ j => exact (recE_zero (hm j (by omega))).1
  have HRL := Lib.hid (rowsS_each b.L b.time hF.recs)
  have HHL : Hid ((headOf b).length ≤ 80) := headS_len _ _ _ _ _ _ _
  have HE : Hid (encB b = if markB b then headOf b else headOf b ++ Wn.enc b.L.length ++ (rowsS b.L b.time b.L.length).flatten) := rfl
  generalize encB b = eb at *
  generalize headOf b = hd at *
  generalize markB b = mk at *
  obtain ⟨base, pid, epoch, seq, kind, time, L⟩ := b
  unfold Bat.cells at *
  simp only at *
  clear hF hv0
  have HW := Lib.hid ((Below.refl w.heap.size w).alloc (Nat.le_refl _) (.cells #[.int .i64 base, .int .i64 pid, .int .i64 epoch, .int .i64 seq, .int .i64 kind, .int .i64 time, .slice A L.length c] 24))
  have hk := heap_alloc_new w (.cells #[.int .i64 base, .int .i64 pid, .int .i64 epoch, .int .i64 seq, .int .i64 kind, .int .i64 time, .slice A L.length c] 24)
  generalize hw1 : w.alloc (.cells #[.int .i64 base, .int .i64 pid, .int .i64 epoch, .int .i64 seq, .int .i64 kind, .int .i64 time, .slice A L.length c] 24) = w1 at *
  have HW1 := Lib.hid hw1
  have HK := Lib.hid hk
  have hz1 : w.heap.size + 1 ≤ w1.heap.size := by rw [← hw1]; simp
  clear hw1 hk
  go_enter Try.func9, Try.ntmps9
  go_wp2_with fail
  rw [HW1.out]
  refine (HVa.out w1 HW.out).mono ?_
  rintro e w2 ⟨rfl, hb2⟩
  have hB2 := hb2
  have z2 := hB2.size
  have hkk := (hB2.block w.heap.size (by omega)).trans HK.out
  have c0 : w2.cell? ⟨w.heap.size, 0, none⟩ = some (.int .i64 base) := cell_of_row w2 _ 0 _ _ _ hkk
  have c1 : w2.cell? ⟨w.heap.size, 1, none⟩ = some (.int .i64 pid) := cell_of_row w2 _ 1 _ _ _ hkk
  have c2 : w2.cell? ⟨w.heap.size, 2, none⟩ = some (.int .i64 epoch) := cell_of_row w2 _ 2 _ _ _ hkk
  have c3 : w2.cell? ⟨w.heap.size, 3, none⟩ = some (.int .i64 seq) := cell_of_row w2 _ 3 _ _ _ hkk
  have c4 : w2.cell? ⟨w.heap.size, 4, none⟩ = some (.int .i64 kind) := cell_of_row w2 _ 4 _ _ _ hkk
  have c5 : w2.cell? ⟨w.heap.size, 5, none⟩ = some (.int .i64 time) := cell_of_row w2 _ 5 _ _ _ hkk
  have c6 : w2.cell? ⟨w.heap.size, 6, none⟩ = some (.slice A L.length c) := cell_of_row w2 _ 6 _ _ _ hkk
  clear hkk HVa hb2
  go_wp2_with fail
  refine (HMa.out _).mono ?_
  rintro e w3 ⟨rfl, hb3⟩
  have hB3 := hB2.trans (hb3.mono z2)
  have z3 := hB3.size
  have hkk := (hB3.block w.heap.size (by omega)).trans HK.out
  clear c0 c1 c2 c3 c4 c5 c6 hB2 hb3 HMa
  have c0 : w3.cell? ⟨w.heap.size, 0, none⟩ = some (.int .i64 base) := cell_of_row w3 _ 0 _ _ _ hkk
  have c1 : w3.cell? ⟨w.heap.size, 1, none⟩ = some (.int .i64 pid) := cell_of_row w3 _ 1 _ _ _ hkk
  have c2 : w3.cell? ⟨w.heap.size, 2, none⟩ = some (.int .i64 epoch) := cell_of_row w3 _ 2 _ _ _ hkk
  have c3 : w3.cell? ⟨w.heap.size, 3, none⟩ = some (.int .i64 seq) := cell_of_row w3 _ 3 _ _ _ hkk
  have c4 : w3.cell? ⟨w.heap.size, 4, none⟩ = some (.int .i64 kind) := cell_of_row w3 _ 4 _ _ _ hkk
  have c5 : w3.cell? ⟨w.heap.size, 5, none⟩ = some (.int .i64 time) := cell_of_row w3 _ 5 _ _ _ hkk
  have c6 : w3.cell? ⟨w.heap.size, 6, none⟩ = some (.slice A L.length c) := cell_of_row w3 _ 6 _ _ _ hkk
  clear hkk
  cases mk with
  | true =>
    go_wp2_with fail
    refine (HHd.out _).mono ?_
    rintro e w4 ⟨v4, rfl, ho4, hb4⟩
    have hB4 := hB3.trans (hb4.mono z3)
    have ho4' := ho4.base_le (base' := w.heap.size) (Nat.le_trans HW.out.size z3)
    clear ho4
    go_wp2_with fail
    go_ret2
    exact ⟨_, rfl, by rw [HE.out]; simp only [if_true, reduceIte]; exact ho4', HW.out.trans (hB4.mono HW.out.size)⟩
  | false =>
    go_upto_region 6 with fail
    have HU : Hid (∀ (W : World) (a : Addr) (c : Nat), W.cell? a = some (.int .i64 (L.length : Int)) → Calls Try.prog 26 #[.slice (some a) 1 c] W fun e w' => ∃ v', e = .returned v' ∧ Own w' W.heap.size v' (Wn.enc L.length) ∧ Below W.heap.size W w') := fun W a c h => numI1 a c L.length W h (by omega)
    have hul := (Wn.enc_len L.length).2
    generalize Wn.enc L.length = ul at *
    go_cut [5] (fun s5 wx => ∃ v, s5 = v ∧ OwnR wx w3.heap.size v [hd, ul] ∧ Below w3.heap.size w3 wx)
    case first =>
      go_region_held3 (fun w' => w'.cell? ⟨w.heap.size, 0, none⟩ = some (.int .i64 base) ∧ w'.cell? ⟨w.heap.size, 1, none⟩ = some (.int .i64 pid) ∧ w'.cell? ⟨w.heap.size, 2, none⟩ = some (.int .i64 epoch) ∧ w'.cell? ⟨w.heap.size, 3, none⟩ = some (.int .i64 seq) ∧ w'.cell? ⟨w.heap.size, 4, none⟩ = some (.int .i64 kind) ∧ w'.cell? ⟨w.heap.size, 5, none⟩ = some (.int .i64 time) ∧ w'.cell? ⟨w.heap.size, 6, none⟩ = some (.slice A L.length c)) (first | exact ⟨c0, c1, c2, c3, c4, c5, c6⟩ | exact k4 | exact k5 | go_keep)
        (first
          | (go_at_call 25; refine (HHd.out _).mono ?_; rintro e w4 ⟨v4, rfl, ho4, hb4⟩; obtain ⟨A4, c4', rfl, hc4, hm4, hbs4, _, _⟩ := ho4.form; have hQ4 : Below w3.heap.size w3 w4 := (by first | exact ((Below.refl _ _).drew).trans (hb4.mono (by simp)) | exact (((Below.refl _ _).alloc (Nat.le_refl _) _).drew).trans (hb4.mono (by simp))); have hz4 : w.heap.size + 1 ≤ w4.heap.size := (by have := hQ4.size; omega); have k4 := And.intro ((hQ4.cell (p := ⟨w.heap.size, 0, none⟩) (by show w.heap.size < _; omega)).trans c0) (And.intro ((hQ4.cell (p := ⟨w.heap.size, 1, none⟩) (by show w.heap.size < _; omega)).trans c1) (And.intro ((hQ4.cell (p := ⟨w.heap.size, 2, none⟩) (by show w.heap.size < _; omega)).trans c2) (And.intro ((hQ4.cell (p := ⟨w.heap.size, 3, none⟩) (by show w.heap.size < _; omega)).trans c3) (And.intro ((hQ4.cell (p := ⟨w.heap.size, 4, none⟩) (by show w.heap.size < _; omega)).trans c4) (And.intro ((hQ4.cell (p := ⟨w.heap.size, 5, none⟩) (by show w.heap.size < _; omega)).trans c5) ((hQ4.cell (p := ⟨w.heap.size, 6, none⟩) (by show w.heap.size < _; omega)).trans c6)))))); (first | (have d4 := fun o => (bcell hb4).1 w3.heap.size o (lt_al _ _)) | skip))
          | (go_at_call 26; refine Calls.mono (HU.out _ _ _ ?_) ?_ <;> first | (rintro e w5 ⟨v5, rfl, ho5, hb5⟩; obtain ⟨A5, c5', rfl, hc5, hm5, hbs5, _, _⟩ := ho5.form; have hQ5 : Below w4.heap.size w4 w5 := (by first | exact hb5 | exact ((Below.refl _ _).alloc (Nat.le_refl _) _).trans (hb5.mono (by simp))); have hs4 := (hbs4.below hQ5).wider hQ5.size; have k5 := And.intro ((hQ5.cell (p := ⟨w.heap.size, 0, none⟩) (by show w.heap.size < _; omega)).trans k4.1) (And.intro ((hQ5.cell (p := ⟨w.heap.size, 1, none⟩) (by show w.heap.size < _; omega)).trans k4.2.1) (And.intro ((hQ5.cell (p := ⟨w.heap.size, 2, none⟩) (by show w.heap.size < _; omega)).trans k4.2.2.1) (And.intro ((hQ5.cell (p := ⟨w.heap.size, 3, none⟩) (by show w.heap.size < _; omega)).trans k4.2.2.2.1) (And.intro ((hQ5.cell (p := ⟨w.heap.size, 4, none⟩) (by show w.heap.size < _; omega)).trans k4.2.2.2.2.1) (And.intro ((hQ5.cell (p := ⟨w.heap.size, 5, none⟩) (by show w.heap.size < _; omega)).trans k4.2.2.2.2.2.1) ((hQ5.cell (p := ⟨w.heap.size, 6, none⟩) (by show w.heap.size < _; omega)).trans k4.2.2.2.2.2.2))))))) | (simp [World.cell?_alloc_some]; done) | (simp [World.cell?_alloc_some, d4]; done)))
      all_goals
        go_wp2_with fail
        go_meet
        exact ⟨_, rfl, OwnR.two (Nat.le_trans hQ4.size hQ5.size) hs4 hc4 hm4 hbs5 hc5 hm5, ((hQ4.trans (hQ5.mono hQ4.size)).alloc (Nat.le_trans hQ4.size hQ5.size) _)⟩
    case rest =>
      obtain ⟨v, rfl, ho0, hB0⟩ := hcut
      have hkk := ((hB0.block w.heap.size (by omega)).trans (hB3.block w.heap.size (by omega))).trans HK.out
      have hBc := hB3.trans (hB0.mono z3)
      have zc := hBc.size
      have zc3 := hB0.size
      clear c0 c1 c2 c3 c4 c5 c6
      obtain ⟨n, hn⟩ : ∃ n, L.length = n := ⟨_, rfl⟩
      rw [hn] at hkk hlen hL HK ⊢
      have HN := Lib.hid hn
      clear hn
      have c5 : wc.cell? ⟨w.heap.size, 5, none⟩ = some (.int .i64 time) := cell_of_row wc _ 5 _ _ _ hkk
      have c6 : wc.cell? ⟨w.heap.size, 6, none⟩ = some (.slice A n c) := cell_of_row wc _ 6 _ _ _ hkk
      have HKc := Lib.hid hkk
      clear hkk HHd
      go_wp2_with fail
      clear c5 c6
      have HR0 := HRL
      clear HRL
      go_loopw [5, 6, 29] (fun v s i wr => ∃ k : Nat, k ≤ n ∧ i = .int .i64 k ∧ s = .string (prevKey L k) ∧ OwnR wr w3.heap.size v ([hd, ul] ++ rowsS L time k) ∧ Below w3.heap.size wc wr) (fun _ _ i _ => n - (intOf i).toNat)
      case atStart => exact ⟨0, by omega, rfl, rfl, by simpa [rowsS] using ho0, Below.refl _ _⟩
      case round =>
        obtain ⟨k, hk, rfl, rfl, hor, hb⟩ := hrel
        have zr := hb.size
        have hBr : Below w.heap.size w wr := (HW.out.trans (hBc.mono HW.out.size)).trans (hb.mono (Nat.le_trans HW.out.size z3))
        have hkk := (hb.block w.heap.size (by omega)).trans HKc.out
        have c5 : wr.cell? ⟨w.heap.size, 5, none⟩ = some (.int .i64 time) := cell_of_row wr _ 5 _ _ _ hkk
        clear hkk
        by_cases hlt : k < n
        · obtain ⟨p, rfl, hp, r0, r1, r2, r3⟩ := (hL.below (hBr.mono hB)).row hlt
          have HRk := Lib.hid (HR.out (wr.alloc (.cells (L.getD k default).cells.toArray 40)) k (by rw [HN.out]; exact hlt))
          have HS := Lib.hid (rowsS_succ L time k)
          have HP : Hid (prevKey L (k + 1) = (L.getD k default).key) := rfl
          have hor' := hor.alloc (.cells (L.getD k default).cells.toArray 40)
          have hb' := hb.alloc (Nat.le_trans zc3 zr) (.cells (L.getD k default).cells.toArray 40)
          have hk1 := heap_alloc_new wr (.cells (L.getD k default).cells.toArray 40)
          have c5a : (wr.alloc (.cells (L.getD k default).cells.toArray 40)).cell? ⟨w.heap.size, 5, none⟩ = some (.int .i64 time) := (World.cell?_alloc_lt wr _ _ (by show w.heap.size < _; omega)).trans c5
          have hz9 : wr.heap.size < (wr.alloc (.cells (L.getD k default).cells.toArray 40)).heap.size := by simp
          generalize prevKey L k = pk at *
          generalize recS (L.getD k default) time pk = rb at *
          generalize L.getD k default = r at *
          obtain ⟨key, value, gone, rt⟩ := r
          simp only [Rec.cells] at *
          have hrl : (rowsS L time k).length = k := by simp [rowsS]
          have HRR := Lib.hid hrl
          generalize rowsS L time k = acc at *
          have hltR := hor.lt
          clear hor hrl
          have HOR := Lib.hid hor'
          have HK1 := Lib.hid hk1
          have HB' := Lib.hid hb'
          clear hor' hk1 hb'
          go_wp2_with fail
          generalize wr.alloc (.cells #[.string key, .string value, .bool gone, .int .i64 rt] 40) = w5 at *
          refine HRk.out.mono ?_
          rintro e w6 ⟨v6, rfl, ho6, hb6⟩
          obtain ⟨A6, c6, rfl, hc6, hm6, hbs6, hlt6, _⟩ := ho6.form
          have hor6 := HOR.out.below hb6 (Nat.le_refl _)
          have hB6 := HB'.out.trans (hb6.mono (by omega))
          have hk6 := (hb6.block _ hz9).trans HK1.out
          have z6 := hb6.size
          have hsz6 : w3.heap.size ≤ w6.heap.size := by omega
          obtain ⟨vs, hown, hrow⟩ := hor6.cells
          have hal := (Below.refl w6.heap.size w6).alloc (Nat.le_refl _) (.cells #[.slice A6 rb.length c6] 25)
          have hown' := hown.alloc (.cells #[.slice A6 rb.length c6] 25)
          have hrow' := rows_below (v := u5) hal hrow
          have hbs6' := (hbs6.below hal).wider hal.size
          have hne6 : ∀ p, A6 = some p → rb ≠ [] → some p.block ≠ (u5 : Value).ownBlock := fun p hp _ e => by
            have h1 := (hlt6 p.block (by rw [hp]; rfl)).1
            have h2 := (hltR _ e.symm).2
            omega
          have HOWN := Lib.hid hown'
          have HROW := Lib.hid hrow'
          have HBS6 := Lib.hid hbs6'
          have HNE := Lib.hid hne6
          have HHC := Lib.hid hc6
          have hB6' := hB6.alloc hsz6 (.cells #[.slice A6 rb.length c6] 25)
          have hk6' : (w6.alloc (.cells #[.slice A6 rb.length c6] 25)).heap[wr.heap.size]? = _ := (hal.block _ (by omega)).trans hk6
          have HLTR := Lib.hid hltR
          clear hown hrow hal hown' hrow' hbs6 hbs6' hne6 ho6 hb6 hor6 HOR HRk hk6 hltR hlt6 hc6
          have HK6 := Lib.hid hk6'
          clear hk6'
          obtain ⟨rn, hrn⟩ : ∃ m, rb.length = m := ⟨_, rfl⟩
          rw [hrn] at HOWN HROW HBS6 HHC hB6' HK6
          rw [hrn]
          have HRN := Lib.hid hrn
          clear hrn
          have HAL : Hid (([hd, ul] ++ acc).length = k + 2) := by show _ = _; rw [List.length_append, HRR.out]; simp only [List.length_cons, List.length_nil]; omega
          rw [HAL.out] at HOWN
          go_wp2_with (at_builtin; refine wpList_append_src _ rfl (.tmp 33) (.tmp 39) 58 rfl w3.heap.size 25 j0 _ 24 Try.underlying58 qj0 qy0 qy1 qy2 rfl _ (k + 2) vs rfl HOWN.out (w6.heap.size + 1) (some ⟨w6.heap.size, 0, none⟩) 1 1 _ rfl rfl (Lies.of_new _ _ _) ?g1 ?g2 ?g3 ?g4 ?_)
          case g1 => rfl
          case g2 => unfold maxLen; omega
          case g3 => omega
          case g4 => simp; omega
          intro v7 w7 hown7 hg7 hat7
          have hor7 := OwnR.push (L := [hd, ul] ++ acc) (l := rb) (by rw [HAL.out]; exact HOWN.out) HROW.out HBS6.out HHC.out hm6 HNE.out (by rw [HAL.out]; exact hown7) hg7 (by simpa using hat7)
          have hB7 := hB6'.trans ((Below.refl _ _).grown hg7 (by simp; omega) (fun k hk => (World.ownsRow.lt HOWN.out k hk).1))
          have hk7 := (hg7.block wr.heap.size (by simp; omega) (fun e => by have := (HLTR.out _ e.symm).2; omega)).trans HK6.out
          have c0 : w7.cell? ⟨wr.heap.size, 0, none⟩ = some (.string key) := cell_of_row w7 _ 0 _ _ _ hk7
          clear hown7 hg7 hat7 hk7 HOWN HROW HBS6 HNE HK6 c5 r0 r1 r2 r3
          go_wp2
          go_roundw
          case rel => exact ⟨k + 1, by omega, by go_num, by rw [HP.out], by rw [HS.out, ← List.append_assoc]; exact hor7, hB7⟩
          case measure => simp [intOf]; omega
        · obtain rfl : k = n := by omega
          obtain ⟨Ap, cp, rfl, hcp, hmp, hRs⟩ := hor.rs
          have hfl := HR0.out k (by rw [HN.out]; exact Nat.le_refl _)
          have hfe : ([hd, ul] ++ rowsS L time k).flatten = hd ++ ul ++ (rowsS L time k).flatten := by simp
          have htot : tot ([hd, ul] ++ rowsS L time k) ≤ 1099511627776 := by
            unfold tot
            rw [hfe, List.length_append, List.length_append]
            have := HHL.out
            have : k * 4000 ≤ 64 * 4000 := Nat.mul_le_mul hlen (Nat.le_refl _)
            omega
          have hll : ([hd, ul] ++ rowsS L time k).length ≤ maxLen := by unfold maxLen; simp [rowsS]; omega
          have HJ := Lib.hid (join_any Ap _ cp _ wr.heap.size wr hRs (Nat.le_refl _) hll htot)
          rw [hfe] at HJ
          have HFIN : Hid (eb = hd ++ ul ++ (rowsS L time k).flatten) := by show _ = _; rw [HE.out, ← HN.out]; simp only [if_false, reduceIte, Bool.false_eq_true]
          clear hRs hor hfe htot hfl hL
          generalize hd ++ ul ++ (rowsS L time k).flatten = fin at *
          generalize ([hd, ul] ++ rowsS L time k).length = an at *
          go_wp2_with fail
          refine HJ.out.mono ?_
          rintro e w6 ⟨v6, rfl, ho6, hb6⟩
          go_wp2_with fail
          go_ret2
          exact ⟨_, rfl, by rw [HFIN.out]; exact ho6.base_le hBr.size, hBr.trans (hb6.mono hBr.size)⟩
end Go.Proofs.Ytniopekkfnkipaa
