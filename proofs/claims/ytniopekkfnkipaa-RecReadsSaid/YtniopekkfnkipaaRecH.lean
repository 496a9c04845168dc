/-
  What rec.head does.
-/
import Derived.Test.YtniopekkfnkipaaRecM
namespace Go.Proofs.Ytniopekkfnkipaa
open Go.RowKit
set_option linter.unusedVariables false
set_option linter.unusedSimpArgs false

theorem two_cells (w : World) (a b : Value) (e : TypeId) : (w.alloc (.cells #[a, b] e)).cell? ⟨w.heap.size, 0, none⟩ = some a ∧ (w.alloc (.cells #[a, b] e)).cell? ⟨w.heap.size, 1, none⟩ = some b :=
  ⟨cell_of_row _ _ 0 _ _ _ (heap_alloc_new w _), cell_of_row _ _ 1 _ _ _ (heap_alloc_new w _)⟩
/-- a batch's head -/
def headS (mk : Bool) (base pid epoch seq kind time : Nat) : List UInt8 :=
  ((Wn.enc 1 ++ Wn.enc kind) ++ (Wn.enc base ++ Wn.enc pid)) ++ (if pid = 0 then [] else Wn.enc epoch ++ (if mk then [] else Wn.enc seq)) ++ Wn.enc time
theorem numI1' (a : Addr) (c x : Nat) (w : World) (h0 : w.cell? a = some (.int .i64 (x : Int))) (hx : x < 9223372036854775808) :
    Calls Try.prog 26 #[.slice (some a) 1 c] w fun e w' => ∃ A' c', e = .returned (.slice A' (Wn.enc x).length c') ∧ (Wn.enc x).length ≤ c' ∧ c' ≤ maxLen ∧ Bs w' w'.heap.size A' (Wn.enc x).length (Wn.enc x) ∧ Below w.heap.size w w' :=
  (numI1 a c x w h0 hx).mono fun e w' ⟨v, he, ho, hb⟩ => by
    obtain ⟨A', c', rfl, h1, h2, h3, _, _⟩ := ho.form
    exact ⟨A', c', he, h1, h2, h3, hb⟩
theorem numL1' (a : Addr) (c x : Nat) (w : World) (h0 : w.cell? a = some (.int .i64 (x : Int))) (hx : x < 9223372036854775808) :
    Calls Try.prog 49 #[.slice (some a) 1 c] w fun e w' => ∃ A' c', e = .returned (.slice A' (Wn.enc x).length c') ∧ (Wn.enc x).length ≤ c' ∧ c' ≤ maxLen ∧ Bs w' w'.heap.size A' (Wn.enc x).length (Wn.enc x) ∧ Below w.heap.size w w' :=
  (numL1 a c x w h0 hx).mono fun e w' ⟨v, he, ho, hb⟩ => by
    obtain ⟨A', c', rfl, h1, h2, h3, _, _⟩ := ho.form
    exact ⟨A', c', he, h1, h2, h3, hb⟩
theorem cell_new1 (w : World) (a : Value) (e : TypeId) : (w.alloc (.cells #[a] e)).cell? ⟨w.heap.size, 0, none⟩ = some a := cell_of_row _ _ 0 _ _ _ (heap_alloc_new w _)

set_option maxRecDepth 100000 in
set_option maxHeartbeats 2000000 in
theorem head_any (mk : Bool) (base pid epoch seq kind time n c : Nat) (A : Option Addr) (w : World) (h1 : base < 9223372036854775808) (h2 : pid < 9223372036854775808) (h3 : epoch < 9223372036854775808) (h4 : seq < 9223372036854775808) (h5 : kind < 9223372036854775808) (h6 : time < 9223372036854775808) (hmk : (((kind : Int) == 2) || ((kind : Int) == 3)) = mk) :
    Calls Try.prog 25 #[.agg #[.int .i64 (base : Int), .int .i64 (pid : Int), .int .i64 (epoch : Int), .int .i64 (seq : Int), .int .i64 (kind : Int), .int .i64 (time : Int), .slice A n c]] w fun e w' => ∃ v, e = .returned v ∧ Own w' w.heap.size v (headS mk base pid epoch seq kind time) ∧ Below w.heap.size w w' := by
  obtain ⟨i0, qi0, qz0, qz1, qz2⟩ := info_parts byte_info
  have HM : Hid (∀ W, Calls Try.prog 24 #[.agg #[.int .i64 (base : Int), .int .i64 (pid : Int), .int .i64 (epoch : Int), .int .i64 (seq : Int), .int .i64 (kind : Int), .int .i64 (time : Int), .slice A n c]] W fun e w' => e = .returned (.bool mk) ∧ Below W.heap.size W w') := fun W => by
    have := marker_any ⟨base, pid, epoch, seq, kind, time, List.replicate n default⟩ A c W
    unfold Bat.cells markB at this
    simp only [List.length_replicate] at this
    rw [hmk] at this
    exact this
  clear hmk
  have HW := Lib.hid ((Below.refl w.heap.size w).alloc (Nat.le_refl _) (.cells #[.int .i64 (base : Int), .int .i64 (pid : Int), .int .i64 (epoch : Int), .int .i64 (seq : Int), .int .i64 (kind : Int), .int .i64 (time : Int), .slice A n c] 24))
  have hk := heap_alloc_new w (.cells #[.int .i64 (base : Int), .int .i64 (pid : Int), .int .i64 (epoch : Int), .int .i64 (seq : Int), .int .i64 (kind : Int), .int .i64 (time : Int), .slice A n c] 24)
  generalize hw1 : w.alloc (.cells #[.int .i64 (base : Int), .int .i64 (pid : Int), .int .i64 (epoch : Int), .int .i64 (seq : Int), .int .i64 (kind : Int), .int .i64 (time : Int), .slice A n c] 24) = w1 at *
  have HW1 := Lib.hid hw1
  have HK := Lib.hid hk
  have hz1 : w.heap.size + 1 ≤ w1.heap.size := by rw [← hw1]; simp
  have c0 : w1.cell? ⟨w.heap.size, 0, none⟩ = some (.int .i64 (base : Int)) := cell_of_row w1 _ 0 _ _ _ hk
  have c1 : w1.cell? ⟨w.heap.size, 1, none⟩ = some (.int .i64 (pid : Int)) := cell_of_row w1 _ 1 _ _ _ hk
  have c4 : w1.cell? ⟨w.heap.size, 4, none⟩ = some (.int .i64 (kind : Int)) := cell_of_row w1 _ 4 _ _ _ hk
  clear hw1 hk
  have H1 : Hid (∀ (W : World) (a : Addr) (c : Nat), W.cell? a = some (.int .i64 1) → W.cell? (a.add 1) = some (.int .i64 (kind : Int)) → Calls Try.prog 26 #[.slice (some a) 2 c] W fun e w' => ∃ v', e = .returned v' ∧ Own w' W.heap.size v' (Wn.enc 1 ++ Wn.enc kind) ∧ Below W.heap.size W w') := fun W a c g0 g1 => numI2 a c 1 kind W g0 g1 (by omega) h5
  have H2 : Hid (∀ (W : World) (a : Addr) (c : Nat), W.cell? a = some (.int .i64 (base : Int)) → W.cell? (a.add 1) = some (.int .i64 (pid : Int)) → Calls Try.prog 49 #[.slice (some a) 2 c] W fun e w' => ∃ v', e = .returned v' ∧ Own w' W.heap.size v' (Wn.enc base ++ Wn.enc pid) ∧ Below W.heap.size W w') := fun W a c g0 g1 => numL2 a c base pid W g0 g1 h1 h2
  have hl1 : (Wn.enc 1 ++ Wn.enc kind).length ≤ 20 := by rw [List.length_append]; have := (Wn.enc_len 1).2; have := (Wn.enc_len kind).2; omega
  have hl2 : (Wn.enc base ++ Wn.enc pid).length ≤ 20 := by rw [List.length_append]; have := (Wn.enc_len base).2; have := (Wn.enc_len pid).2; omega
  have HS : Hid (headS mk base pid epoch seq kind time = ((Wn.enc 1 ++ Wn.enc kind) ++ (Wn.enc base ++ Wn.enc pid)) ++ (if pid = 0 then [] else Wn.enc epoch ++ (if mk then [] else Wn.enc seq)) ++ Wn.enc time) := rfl
  generalize headS mk base pid epoch seq kind time = hd at *
  generalize Wn.enc 1 ++ Wn.enc kind = e1 at *
  generalize Wn.enc base ++ Wn.enc pid = e2 at *
  go_enter Try.func25, Try.ntmps25
  go_upto_region 1 with fail
  rw [HW1.out]
  go_cut [3] (fun s3 wx => ∃ v, s3 = v ∧ Own wx w1.heap.size v (e1 ++ e2) ∧ Below w1.heap.size w1 wx)
  case first =>
    go_region_held3 (fun w' => w'.cell? ⟨w.heap.size, 0, none⟩ = some (.int .i64 (base : Int)) ∧ w'.cell? ⟨w.heap.size, 1, none⟩ = some (.int .i64 (pid : Int)) ∧ w'.cell? ⟨w.heap.size, 4, none⟩ = some (.int .i64 (kind : Int))) (first | exact ⟨c0, c1, c4⟩ | exact ⟨k20, k21, k24⟩ | exact ⟨k30, k31, k34⟩ | exact ⟨k40, k41, k44⟩ | go_keep)
      (first
        | (go_at_call 26; refine Calls.mono (H1.out _ _ _ ?_ ?_) ?_ <;> first | (rintro e w2 ⟨v2, rfl, ho2, hb2⟩; obtain ⟨A2, c2, rfl, hc2, hm2, hbs2, _, _⟩ := ho2.form; have k20 := (hb2.cell (p := ⟨w.heap.size, 0, none⟩) (by simp; omega)); have k21 := (hb2.cell (p := ⟨w.heap.size, 1, none⟩) (by simp; omega)); have k24 := (hb2.cell (p := ⟨w.heap.size, 4, none⟩) (by simp; omega)); simp [c0, c1, c4, World.cell?_alloc_some] at k20 k21 k24; have hQ2 : Below w1.heap.size w1 w2 := (by first | exact (((Below.refl _ _).alloc (Nat.le_refl _) _).drew).trans (hb2.mono (by simp)) | exact ((((Below.refl _ _).alloc (Nat.le_refl _) _).alloc (by simp) _).drew).trans (hb2.mono (by simp; omega))); have hz2 : w.heap.size + 1 ≤ w2.heap.size := Nat.le_trans hz1 hQ2.size; have hcc2 := (bcell hb2).1; have hcd2 := fun o => (bcell hb2).1 w1.heap.size o (by simp; try omega)) | (simp [Addr.add, World.cell?_alloc_some]; done))
        | (go_at_call 49; refine Calls.mono (H2.out _ _ _ ?_ ?_) ?_ <;> first | (rintro e w3 ⟨v3, rfl, ho3, hb3⟩; obtain ⟨A3, c3, rfl, hc3, hm3, hbs3, _, _⟩ := ho3.form; have k30 := (hb3.cell (p := ⟨w.heap.size, 0, none⟩) (by simp; omega)); have k31 := (hb3.cell (p := ⟨w.heap.size, 1, none⟩) (by simp; omega)); have k34 := (hb3.cell (p := ⟨w.heap.size, 4, none⟩) (by simp; omega)); simp [k20, k21, k24, World.cell?_alloc_some] at k30 k31 k34; have hQ3 : Below w2.heap.size w2 w3 := (by first | exact hb3 | exact (((Below.refl _ _).alloc (Nat.le_refl _) _)).trans (hb3.mono (by simp))); have hbs2' := (hbs2.below hQ3).wider hQ3.size; have hz3 : w.heap.size + 1 ≤ w3.heap.size := Nat.le_trans hz2 hQ3.size) | (simp [Addr.add, World.cell?_alloc_some]; done) | (simp [Addr.add, World.cell?_alloc_some, hcc2]; done) | (simp [Addr.add, World.cell?_alloc_some, hcd2]; done))
        | (go_at_call 28; refine Calls.mono (join2 (A1 := A2) (A2 := A3) (l1 := e1) (l2 := e2) ?_ ?_ ?_ ?_ hc2 hm2 hc3 hm3 (by omega) (by omega)) ?_ <;> first | (rintro e w4 ⟨v4, rfl, ho4, hb4⟩; have k40 := (hb4.cell (p := ⟨w.heap.size, 0, none⟩) (by simp; omega)); have k41 := (hb4.cell (p := ⟨w.heap.size, 1, none⟩) (by simp; omega)); have k44 := (hb4.cell (p := ⟨w.heap.size, 4, none⟩) (by simp; omega)); simp [k30, k31, k34, World.cell?_alloc_some] at k40 k41 k44; have hQ4 : Below w3.heap.size w3 w4 := (((Below.refl _ _).alloc (Nat.le_refl _) _)).trans (hb4.mono (by simp))) | (simp [World.cell?_alloc_some]; done) | (exact ((hbs2'.alloc (Nat.le_refl _) _).wider (by simp))) | (exact ((hbs3.alloc (Nat.le_refl _) _).wider (by simp)))))
    all_goals
      go_wp2_with fail
      go_meet
      exact ⟨_, rfl, ho4.base_le (by have := hQ2.size; have := hQ3.size; simp; omega), (hQ2.trans (hQ3.mono hQ2.size)).trans (hQ4.mono (Nat.le_trans hQ2.size hQ3.size))⟩
  case rest =>
    obtain ⟨v, rfl, ho0, hB0⟩ := hcut
    have hle0 : (e1 ++ e2).length ≤ 40 := by rw [List.length_append]; omega
    obtain ⟨a0, ha0⟩ : ∃ a0, e1 ++ e2 = a0 := ⟨_, rfl⟩
    rw [ha0] at ho0 hle0 HS
    have HO0 := Lib.hid ho0
    have hkk := (hB0.block w.heap.size (by omega)).trans HK.out
    clear ha0 ho0 c0 c1 c4
    have hz0 := hB0.size
    have c0 : wc.cell? ⟨w.heap.size, 0, none⟩ = some (.int .i64 (base : Int)) := cell_of_row wc _ 0 _ _ _ hkk
    have c1 : wc.cell? ⟨w.heap.size, 1, none⟩ = some (.int .i64 (pid : Int)) := cell_of_row wc _ 1 _ _ _ hkk
    have c2 : wc.cell? ⟨w.heap.size, 2, none⟩ = some (.int .i64 (epoch : Int)) := cell_of_row wc _ 2 _ _ _ hkk
    have c3 : wc.cell? ⟨w.heap.size, 3, none⟩ = some (.int .i64 (seq : Int)) := cell_of_row wc _ 3 _ _ _ hkk
    have c4 : wc.cell? ⟨w.heap.size, 4, none⟩ = some (.int .i64 (kind : Int)) := cell_of_row wc _ 4 _ _ _ hkk
    have c5 : wc.cell? ⟨w.heap.size, 5, none⟩ = some (.int .i64 (time : Int)) := cell_of_row wc _ 5 _ _ _ hkk
    have c6 : wc.cell? ⟨w.heap.size, 6, none⟩ = some (.slice A n c) := cell_of_row wc _ 6 _ _ _ hkk
    clear hkk
    by_cases hp : pid = 0
    · subst hp
      have HS' := HS
      rw [if_pos rfl] at HS'
      go_wp2_with fail
      refine (numL1' _ _ time _ (cell_new1 wc _ _) h6).mono ?_
      rintro e wa1 ⟨Aa1, ca1, rfl, hca1, hma1, hba1, hbw1⟩
      have hoa1 := (HO0.out.alloc (.cells #[.int .i64 (time : Int)] 2)).below hbw1 (Nat.le_refl _)
      have hBa1 := (hB0.alloc hB0.size (.cells #[.int .i64 (time : Int)] 2)).trans (hbw1.mono (by have := hB0.size; simp; omega))
      have hza1 := hBa1.size
      have hel1 := (Wn.enc_len time).2
      obtain ⟨x1, hx1⟩ : ∃ x1, Wn.enc time = x1 := ⟨_, rfl⟩
      have HX1 := Lib.hid hx1
      rw [hx1] at hba1 hca1 hel1
      rw [hx1]
      clear hx1 hbw1
      obtain ⟨m1, hm1⟩ : ∃ m1, x1.length = m1 := ⟨_, rfl⟩
      have HM1 := Lib.hid hm1
      rw [hm1] at hba1 hca1 hel1
      rw [hm1]
      clear hm1
      go_wp2_with (at_builtin; refine wpList_append_src _ rfl (.tmp 34) (.tmp 38) 25 rfl w1.heap.size 5 i0 _ 1 Try.underlying25 qi0 qz0 qz1 qz2 rfl _ a0.length (bvs a0) rfl hoa1 wa1.heap.size Aa1 m1 ca1 (bvs x1) rfl ?ha hba1.lies (bvs_one _) ?hb ?hc ?hd ?_)
      case ha => rw [bvs_length]; exact HM1.out
      case hb => unfold maxLen; omega
      case hc => omega
      case hd => exact hza1
      intro v1 wb1 hwn1 hgr1 _
      have hob1 : Own wb1 w1.heap.size v1 (a0 ++ x1) := by
        unfold Own
        rw [bvs_append, List.length_append, HM1.out]
        exact hwn1
      have hB1 := hBa1.trans (grown_below hoa1 hgr1 hza1)
      obtain ⟨a1, ha1⟩ : ∃ a1, a0 ++ x1 = a1 := ⟨_, rfl⟩
      have hle1 : a1.length ≤ 60 := by rw [← ha1, List.length_append, HM1.out]; omega
      have HA1 := Lib.hid ha1
      rw [ha1] at hob1
      have HO1 := Lib.hid hob1
      clear hwn1 hgr1 hoa1 hba1 hBa1 ha1 hob1
      go_wp2_with fail
      go_ret
      exact ⟨_, rfl, by rw [HS.out]; simp only [if_true, reduceIte, List.append_nil, HX1.out, HA1.out]; exact HO1.out.base_le HW.out.size, HW.out.trans (hB1.mono HW.out.size)⟩
    · have hpe : ((pid : Int) != 0) = true := by rw [bne_iff_ne]; omega
      go_wp2_with fail
      refine (numI1' _ _ epoch _ (cell_new1 wc _ _) h3).mono ?_
      rintro e wa1 ⟨Aa1, ca1, rfl, hca1, hma1, hba1, hbw1⟩
      have hoa1 := (HO0.out.alloc (.cells #[.int .i64 (epoch : Int)] 3)).below hbw1 (Nat.le_refl _)
      have hBa1 := (hB0.alloc hB0.size (.cells #[.int .i64 (epoch : Int)] 3)).trans (hbw1.mono (by have := hB0.size; simp; omega))
      have hza1 := hBa1.size
      have hel1 := (Wn.enc_len epoch).2
      obtain ⟨x1, hx1⟩ : ∃ x1, Wn.enc epoch = x1 := ⟨_, rfl⟩
      have HX1 := Lib.hid hx1
      rw [hx1] at hba1 hca1 hel1
      rw [hx1]
      clear hx1 hbw1
      obtain ⟨m1, hm1⟩ : ∃ m1, x1.length = m1 := ⟨_, rfl⟩
      have HM1 := Lib.hid hm1
      rw [hm1] at hba1 hca1 hel1
      rw [hm1]
      clear hm1
      go_wp2_with (at_builtin; refine wpList_append_src _ rfl (.tmp 19) (.tmp 23) 25 rfl w1.heap.size 5 i0 _ 1 Try.underlying25 qi0 qz0 qz1 qz2 rfl _ a0.length (bvs a0) rfl hoa1 wa1.heap.size Aa1 m1 ca1 (bvs x1) rfl ?ha hba1.lies (bvs_one _) ?hb ?hc ?hd ?_)
      case ha => rw [bvs_length]; exact HM1.out
      case hb => unfold maxLen; omega
      case hc => omega
      case hd => exact hza1
      intro v1 wb1 hwn1 hgr1 _
      have hob1 : Own wb1 w1.heap.size v1 (a0 ++ x1) := by
        unfold Own
        rw [bvs_append, List.length_append, HM1.out]
        exact hwn1
      have hB1 := hBa1.trans (grown_below hoa1 hgr1 hza1)
      obtain ⟨a1, ha1⟩ : ∃ a1, a0 ++ x1 = a1 := ⟨_, rfl⟩
      have hle1 : a1.length ≤ 60 := by rw [← ha1, List.length_append, HM1.out]; omega
      have HA1 := Lib.hid ha1
      rw [ha1] at hob1
      have HO1 := Lib.hid hob1
      have hkk := (hB1.block w.heap.size (by omega)).trans HK.out
      clear hwn1 hgr1 hoa1 hba1 hBa1 ha1 hob1 c0 c1 c2 c3 c4 c5 c6
      have c0 : wb1.cell? ⟨w.heap.size, 0, none⟩ = some (.int .i64 (base : Int)) := cell_of_row wb1 _ 0 _ _ _ hkk
      have c1 : wb1.cell? ⟨w.heap.size, 1, none⟩ = some (.int .i64 (pid : Int)) := cell_of_row wb1 _ 1 _ _ _ hkk
      have c2 : wb1.cell? ⟨w.heap.size, 2, none⟩ = some (.int .i64 (epoch : Int)) := cell_of_row wb1 _ 2 _ _ _ hkk
      have c3 : wb1.cell? ⟨w.heap.size, 3, none⟩ = some (.int .i64 (seq : Int)) := cell_of_row wb1 _ 3 _ _ _ hkk
      have c4 : wb1.cell? ⟨w.heap.size, 4, none⟩ = some (.int .i64 (kind : Int)) := cell_of_row wb1 _ 4 _ _ _ hkk
      have c5 : wb1.cell? ⟨w.heap.size, 5, none⟩ = some (.int .i64 (time : Int)) := cell_of_row wb1 _ 5 _ _ _ hkk
      have c6 : wb1.cell? ⟨w.heap.size, 6, none⟩ = some (.slice A n c) := cell_of_row wb1 _ 6 _ _ _ hkk
      clear hkk
      cases mk with
      | true =>
        go_wp2_with fail
        refine (HM.out _).mono ?_
        rintro e w5 ⟨rfl, hb5⟩
        have HO1' := Lib.hid (HO1.out.below hb5 (Nat.le_refl _))
        have hB1' := hB1.trans (hb5.mono hB1.size)
        have hkk := (hB1'.block w.heap.size (by omega)).trans HK.out
        clear c0 c1 c2 c3 c4 c5 c6
        have c0 : w5.cell? ⟨w.heap.size, 0, none⟩ = some (.int .i64 (base : Int)) := cell_of_row w5 _ 0 _ _ _ hkk
        have c1 : w5.cell? ⟨w.heap.size, 1, none⟩ = some (.int .i64 (pid : Int)) := cell_of_row w5 _ 1 _ _ _ hkk
        have c2 : w5.cell? ⟨w.heap.size, 2, none⟩ = some (.int .i64 (epoch : Int)) := cell_of_row w5 _ 2 _ _ _ hkk
        have c3 : w5.cell? ⟨w.heap.size, 3, none⟩ = some (.int .i64 (seq : Int)) := cell_of_row w5 _ 3 _ _ _ hkk
        have c4 : w5.cell? ⟨w.heap.size, 4, none⟩ = some (.int .i64 (kind : Int)) := cell_of_row w5 _ 4 _ _ _ hkk
        have c5 : w5.cell? ⟨w.heap.size, 5, none⟩ = some (.int .i64 (time : Int)) := cell_of_row w5 _ 5 _ _ _ hkk
        have c6 : w5.cell? ⟨w.heap.size, 6, none⟩ = some (.slice A n c) := cell_of_row w5 _ 6 _ _ _ hkk
        clear hkk
        go_wp2_with fail
        refine (numL1' _ _ time _ (cell_new1 w5 _ _) h6).mono ?_
        rintro e wa2 ⟨Aa2, ca2, rfl, hca2, hma2, hba2, hbw2⟩
        have hoa2 := (HO1'.out.alloc (.cells #[.int .i64 (time : Int)] 2)).below hbw2 (Nat.le_refl _)
        have hBa2 := (hB1'.alloc hB1'.size (.cells #[.int .i64 (time : Int)] 2)).trans (hbw2.mono (by have := hB1'.size; simp; omega))
        have hza2 := hBa2.size
        have hel2 := (Wn.enc_len time).2
        obtain ⟨x2, hx2⟩ : ∃ x2, Wn.enc time = x2 := ⟨_, rfl⟩
        have HX2 := Lib.hid hx2
        rw [hx2] at hba2 hca2 hel2
        rw [hx2]
        clear hx2 hbw2
        obtain ⟨m2, hm2⟩ : ∃ m2, x2.length = m2 := ⟨_, rfl⟩
        have HM2 := Lib.hid hm2
        rw [hm2] at hba2 hca2 hel2
        rw [hm2]
        clear hm2
        go_wp2_with (at_builtin; refine wpList_append_src _ rfl (.tmp 34) (.tmp 38) 25 rfl w1.heap.size 5 i0 _ 1 Try.underlying25 qi0 qz0 qz1 qz2 rfl _ a1.length (bvs a1) rfl hoa2 wa2.heap.size Aa2 m2 ca2 (bvs x2) rfl ?ha hba2.lies (bvs_one _) ?hb ?hc ?hd ?_)
        case ha => rw [bvs_length]; exact HM2.out
        case hb => unfold maxLen; omega
        case hc => omega
        case hd => exact hza2
        intro v2 wb2 hwn2 hgr2 _
        have hob2 : Own wb2 w1.heap.size v2 (a1 ++ x2) := by
          unfold Own
          rw [bvs_append, List.length_append, HM2.out]
          exact hwn2
        have hB2 := hBa2.trans (grown_below hoa2 hgr2 hza2)
        obtain ⟨a2, ha2⟩ : ∃ a2, a1 ++ x2 = a2 := ⟨_, rfl⟩
        have hle2 : a2.length ≤ 90 := by rw [← ha2, List.length_append, HM2.out]; omega
        have HA2 := Lib.hid ha2
        rw [ha2] at hob2
        have HO2 := Lib.hid hob2
        clear hwn2 hgr2 hoa2 hba2 hBa2 ha2 hob2
        go_wp2_with fail
        go_ret
        exact ⟨_, rfl, by rw [HS.out]; simp only [if_neg hp, if_true, reduceIte, List.append_nil, HX1.out, HX2.out, HA1.out, HA2.out]; exact HO2.out.base_le HW.out.size, HW.out.trans (hB2.mono HW.out.size)⟩
      | false =>
        go_wp2_with fail
        refine (HM.out _).mono ?_
        rintro e w5 ⟨rfl, hb5⟩
        have HO1' := Lib.hid (HO1.out.below hb5 (Nat.le_refl _))
        have hB1' := hB1.trans (hb5.mono hB1.size)
        have hkk := (hB1'.block w.heap.size (by omega)).trans HK.out
        clear c0 c1 c2 c3 c4 c5 c6
        have c0 : w5.cell? ⟨w.heap.size, 0, none⟩ = some (.int .i64 (base : Int)) := cell_of_row w5 _ 0 _ _ _ hkk
        have c1 : w5.cell? ⟨w.heap.size, 1, none⟩ = some (.int .i64 (pid : Int)) := cell_of_row w5 _ 1 _ _ _ hkk
        have c2 : w5.cell? ⟨w.heap.size, 2, none⟩ = some (.int .i64 (epoch : Int)) := cell_of_row w5 _ 2 _ _ _ hkk
        have c3 : w5.cell? ⟨w.heap.size, 3, none⟩ = some (.int .i64 (seq : Int)) := cell_of_row w5 _ 3 _ _ _ hkk
        have c4 : w5.cell? ⟨w.heap.size, 4, none⟩ = some (.int .i64 (kind : Int)) := cell_of_row w5 _ 4 _ _ _ hkk
        have c5 : w5.cell? ⟨w.heap.size, 5, none⟩ = some (.int .i64 (time : Int)) := cell_of_row w5 _ 5 _ _ _ hkk
        have c6 : w5.cell? ⟨w.heap.size, 6, none⟩ = some (.slice A n c) := cell_of_row w5 _ 6 _ _ _ hkk
        clear hkk
        go_wp2_with fail
        refine (numI1' _ _ seq _ (cell_new1 w5 _ _) h4).mono ?_
        rintro e wa2 ⟨Aa2, ca2, rfl, hca2, hma2, hba2, hbw2⟩
        have hoa2 := (HO1'.out.alloc (.cells #[.int .i64 (seq : Int)] 3)).below hbw2 (Nat.le_refl _)
        have hBa2 := (hB1'.alloc hB1'.size (.cells #[.int .i64 (seq : Int)] 3)).trans (hbw2.mono (by have := hB1'.size; simp; omega))
        have hza2 := hBa2.size
        have hel2 := (Wn.enc_len seq).2
        obtain ⟨x2, hx2⟩ : ∃ x2, Wn.enc seq = x2 := ⟨_, rfl⟩
        have HX2 := Lib.hid hx2
        rw [hx2] at hba2 hca2 hel2
        rw [hx2]
        clear hx2 hbw2
        obtain ⟨m2, hm2⟩ : ∃ m2, x2.length = m2 := ⟨_, rfl⟩
        have HM2 := Lib.hid hm2
        rw [hm2] at hba2 hca2 hel2
        rw [hm2]
        clear hm2
        go_wp2_with (at_builtin; refine wpList_append_src _ rfl (.tmp 28) (.tmp 32) 25 rfl w1.heap.size 5 i0 _ 1 Try.underlying25 qi0 qz0 qz1 qz2 rfl _ a1.length (bvs a1) rfl hoa2 wa2.heap.size Aa2 m2 ca2 (bvs x2) rfl ?ha hba2.lies (bvs_one _) ?hb ?hc ?hd ?_)
        case ha => rw [bvs_length]; exact HM2.out
        case hb => unfold maxLen; omega
        case hc => omega
        case hd => exact hza2
        intro v2 wb2 hwn2 hgr2 _
        have hob2 : Own wb2 w1.heap.size v2 (a1 ++ x2) := by
          unfold Own
          rw [bvs_append, List.length_append, HM2.out]
          exact hwn2
        have hB2 := hBa2.trans (grown_below hoa2 hgr2 hza2)
        obtain ⟨a2, ha2⟩ : ∃ a2, a1 ++ x2 = a2 := ⟨_, rfl⟩
        have hle2 : a2.length ≤ 90 := by rw [← ha2, List.length_append, HM2.out]; omega
        have HA2 := Lib.hid ha2
        rw [ha2] at hob2
        have HO2 := Lib.hid hob2
        have hkk := (hB2.block w.heap.size (by omega)).trans HK.out
        clear hwn2 hgr2 hoa2 hba2 hBa2 ha2 hob2 c0 c1 c2 c3 c4 c5 c6
        have c0 : wb2.cell? ⟨w.heap.size, 0, none⟩ = some (.int .i64 (base : Int)) := cell_of_row wb2 _ 0 _ _ _ hkk
        have c1 : wb2.cell? ⟨w.heap.size, 1, none⟩ = some (.int .i64 (pid : Int)) := cell_of_row wb2 _ 1 _ _ _ hkk
        have c2 : wb2.cell? ⟨w.heap.size, 2, none⟩ = some (.int .i64 (epoch : Int)) := cell_of_row wb2 _ 2 _ _ _ hkk
        have c3 : wb2.cell? ⟨w.heap.size, 3, none⟩ = some (.int .i64 (seq : Int)) := cell_of_row wb2 _ 3 _ _ _ hkk
        have c4 : wb2.cell? ⟨w.heap.size, 4, none⟩ = some (.int .i64 (kind : Int)) := cell_of_row wb2 _ 4 _ _ _ hkk
        have c5 : wb2.cell? ⟨w.heap.size, 5, none⟩ = some (.int .i64 (time : Int)) := cell_of_row wb2 _ 5 _ _ _ hkk
        have c6 : wb2.cell? ⟨w.heap.size, 6, none⟩ = some (.slice A n c) := cell_of_row wb2 _ 6 _ _ _ hkk
        clear hkk
        go_wp2_with fail
        refine (numL1' _ _ time _ (cell_new1 wb2 _ _) h6).mono ?_
        rintro e wa3 ⟨Aa3, ca3, rfl, hca3, hma3, hba3, hbw3⟩
        have hoa3 := (HO2.out.alloc (.cells #[.int .i64 (time : Int)] 2)).below hbw3 (Nat.le_refl _)
        have hBa3 := (hB2.alloc hB2.size (.cells #[.int .i64 (time : Int)] 2)).trans (hbw3.mono (by have := hB2.size; simp; omega))
        have hza3 := hBa3.size
        have hel3 := (Wn.enc_len time).2
        obtain ⟨x3, hx3⟩ : ∃ x3, Wn.enc time = x3 := ⟨_, rfl⟩
        have HX3 := Lib.hid hx3
        rw [hx3] at hba3 hca3 hel3
        rw [hx3]
        clear hx3 hbw3
        obtain ⟨m3, hm3⟩ : ∃ m3, x3.length = m3 := ⟨_, rfl⟩
        have HM3 := Lib.hid hm3
        rw [hm3] at hba3 hca3 hel3
        rw [hm3]
        clear hm3
        go_wp2_with (at_builtin; refine wpList_append_src _ rfl (.tmp 34) (.tmp 38) 25 rfl w1.heap.size 5 i0 _ 1 Try.underlying25 qi0 qz0 qz1 qz2 rfl _ a2.length (bvs a2) rfl hoa3 wa3.heap.size Aa3 m3 ca3 (bvs x3) rfl ?ha hba3.lies (bvs_one _) ?hb ?hc ?hd ?_)
        case ha => rw [bvs_length]; exact HM3.out
        case hb => unfold maxLen; omega
        case hc => omega
        case hd => exact hza3
        intro v3 wb3 hwn3 hgr3 _
        have hob3 : Own wb3 w1.heap.size v3 (a2 ++ x3) := by
          unfold Own
          rw [bvs_append, List.length_append, HM3.out]
          exact hwn3
        have hB3 := hBa3.trans (grown_below hoa3 hgr3 hza3)
        obtain ⟨a3, ha3⟩ : ∃ a3, a2 ++ x3 = a3 := ⟨_, rfl⟩
        have hle3 : a3.length ≤ 120 := by rw [← ha3, List.length_append, HM3.out]; omega
        have HA3 := Lib.hid ha3
        rw [ha3] at hob3
        have HO3 := Lib.hid hob3
        clear hwn3 hgr3 hoa3 hba3 hBa3 ha3 hob3
        go_wp2_with fail
        go_ret
        exact ⟨_, rfl, by rw [HS.out]; simp only [if_neg hp, if_false, reduceIte, Bool.false_eq_true, HX1.out, HX2.out, HX3.out, ← List.append_assoc, HA1.out, HA2.out, HA3.out]; exact HO3.out.base_le HW.out.size, HW.out.trans (hB3.mono HW.out.size)⟩
end Go.Proofs.Ytniopekkfnkipaa
