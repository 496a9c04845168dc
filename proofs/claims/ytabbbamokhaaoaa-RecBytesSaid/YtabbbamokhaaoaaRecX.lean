/-
  What a batch's bytes are read as: the batch itself, and no other one.
-/
import Derived.Test.YtabbbamokhaaoaaRecDd
namespace Go.Proofs.Ytabbbamokhaaoaa
open Go.RowKit
set_option linter.unusedVariables false
set_option linter.unusedSimpArgs false

theorem dUint_at (pre post : List UInt8) (n : Nat) (hn : n < 18446744073709551616) : dUint (pre ++ (Wn.enc n ++ post)) pre.length = .ok (.int .u64 (n : Int)) (pre ++ Wn.enc n).length := by
  unfold dUint
  rw [List.drop_left' rfl, Wn.num_enc n hn post, List.length_append]
theorem dInt_at (pre post : List UInt8) (n : Int) (h1 : -9223372036854775808 ≤ n) (h2 : n ≤ 9223372036854775807) : dInt (pre ++ (Wn.enc (Wn.zig n) ++ post)) pre.length = .ok (.int .i64 n) (pre ++ Wn.enc (Wn.zig n)).length := by
  unfold dInt
  rw [List.drop_left' rfl, Wn.num_enc _ (Wn.zig_lt n h1 h2) post]
  simp only
  rw [Wn.zag_zig, List.length_append]
theorem getD_at (pre post : List UInt8) (x : UInt8) : (pre ++ x :: post).getD pre.length 0 = x := by
  rw [List.getD_eq_getElem?_getD, List.getElem?_append_right (Nat.le_refl _)]
  simp
theorem dByte_at (pre post : List UInt8) (x : UInt8) : dByte (pre ++ x :: post) pre.length = .ok (.int .i64 (x.toNat : Int)) (pre.length + 1) := by
  unfold dByte
  rw [if_pos (by simp), getD_at]
theorem dFlag_at (pre post : List UInt8) (on : Bool) : dFlag (pre ++ (encF_ on ++ post)) pre.length = .ok (.bool on) (pre ++ encF_ on).length := by
  unfold dFlag encF_
  cases on with
  | true =>
    simp only [reduceIte, if_true, List.cons_append, List.nil_append]
    rw [if_pos (by simp), getD_at, if_pos (by decide)]
    simp
  | false =>
    simp only [reduceIte, if_false, Bool.false_eq_true, List.cons_append, List.nil_append]
    rw [if_pos (by simp), getD_at, if_pos (by decide)]
    simp
theorem dText_at (pre post : List UInt8) (s : ByteArray) (hs : s.size ≤ 1024) : dText (pre ++ (encT s ++ post)) pre.length 1024 = .ok (.string s) (pre ++ encT s).length := by
  have hz : s.data.toList.length = s.size := by simp
  unfold dText encT
  rw [List.drop_left' rfl, List.append_assoc, Wn.num_enc s.size (by omega)]
  simp only
  have hd : (pre ++ (Wn.enc s.size ++ (s.data.toList ++ post))).drop (pre.length + (Wn.enc s.size).length) = s.data.toList ++ post := by
    rw [← List.append_assoc, ← List.length_append]
    exact List.drop_left' rfl
  rw [hd, if_neg (by show ¬ (1024 : Int).toNat < s.size; simp; omega), if_neg (by simp only [List.length_append, hz]; omega), List.take_left' hz]
  congr 1
  · simp only [List.length_append, hz]
    omega
theorem enc_small (n : Nat) (h : n < 128) : Wn.enc n = [UInt8.ofNat n] := encF_small _ _ (by omega) h

/-- a record's bytes, behind others and ahead of others -/
theorem recAt_enc (pre post : List UInt8) (time : Int) (last : ByteArray) (r : Rec) (h : recE r = 0) (t1 : 0 ≤ time) (t2 : time ≤ 1099511627776) :
    RecAt (pre ++ (recS r time last ++ post)) time last pre.length r (pre ++ recS r time last).length := by
  obtain ⟨x1, x2, x3, x4, x5⟩ := recE_zero h
  have hcl := (comm_le last.data.toList r.key.data.toList).2
  rw [Array.length_toList] at hcl
  have hcl' : comm last.data.toList r.key.data.toList ≤ r.key.size := hcl
  have hkx : (r.key.extract (comm last.data.toList r.key.data.toList) r.key.size).size ≤ 1024 := by rw [ByteArray.size_extract]; omega
  have hcb : comm last.data.toList r.key.data.toList < 18446744073709551616 := by omega
  have hz : recS r time last = Wn.enc (Wn.zig (r.time - time)) ++ encF_ r.gone ++ Wn.enc (comm last.data.toList r.key.data.toList) ++ encT (r.key.extract (comm last.data.toList r.key.data.toList) r.key.size) ++ (if r.gone then [] else encT r.value) := rfl
  have A1 := dInt_at pre (encF_ r.gone ++ (Wn.enc (comm last.data.toList r.key.data.toList) ++ (encT (r.key.extract (comm last.data.toList r.key.data.toList) r.key.size) ++ ((if r.gone then [] else encT r.value) ++ post)))) (r.time - time) (by omega) (by omega)
  have A2 := dFlag_at (pre ++ Wn.enc (Wn.zig (r.time - time))) (Wn.enc (comm last.data.toList r.key.data.toList) ++ (encT (r.key.extract (comm last.data.toList r.key.data.toList) r.key.size) ++ ((if r.gone then [] else encT r.value) ++ post))) r.gone
  have A3 := dUint_at (pre ++ Wn.enc (Wn.zig (r.time - time)) ++ encF_ r.gone) (encT (r.key.extract (comm last.data.toList r.key.data.toList) r.key.size) ++ ((if r.gone then [] else encT r.value) ++ post)) _ hcb
  have A4 := dText_at (pre ++ Wn.enc (Wn.zig (r.time - time)) ++ encF_ r.gone ++ Wn.enc (comm last.data.toList r.key.data.toList)) ((if r.gone then [] else encT r.value) ++ post) _ hkx
  have A5 : r.gone = false → dText ((pre ++ Wn.enc (Wn.zig (r.time - time)) ++ encF_ r.gone ++ Wn.enc (comm last.data.toList r.key.data.toList) ++ encT (r.key.extract (comm last.data.toList r.key.data.toList) r.key.size)) ++ (encT r.value ++ post)) _ 1024 = _ := fun _ => dText_at (pre ++ Wn.enc (Wn.zig (r.time - time)) ++ encF_ r.gone ++ Wn.enc (comm last.data.toList r.key.data.toList) ++ encT (r.key.extract (comm last.data.toList r.key.data.toList) r.key.size)) post _ x2
  rw [hz]
  simp only [List.append_assoc] at A1 A2 A3 A4 A5 ⊢
  refine ⟨_, _, _, _, r.time - time, A1, by omega, A2, A3, A4, fun hg => ⟨?_, ?_⟩, fun hg => ?_⟩
  · have hv := x5 hg
    cases hvv : r.value with
    | mk d =>
      rw [hvv] at hv
      have : d.size = 0 := hv
      rw [Array.size_eq_zero_iff.1 this]
  · rw [if_pos hg, List.append_nil]
  · have := A5 hg
    rw [if_neg (by rw [hg]; decide)]
    exact this

/-- up to where the first k records reach -/
theorem rowsS_take (L : List Rec) (time : Int) (k : Nat) (h : k ≤ L.length) : ∃ post, (rowsS L time L.length).flatten = (rowsS L time k).flatten ++ post := by
  refine ⟨((rowsS L time L.length).drop k).flatten, ?_⟩
  have e : rowsS L time k = (rowsS L time L.length).take k := by
    simp [rowsS, ← List.map_take, List.take_range, Nat.min_eq_left h]
  rw [e, ← List.flatten_append, List.take_append_drop]
theorem headAt_enc (mk : Bool) (base pid epoch seq kind time : Nat) (post : List UInt8) (k1 : base < 18446744073709551616) (k2 : pid < 18446744073709551616) (k3 : epoch < 18446744073709551616) (k4 : seq < 18446744073709551616) (k5 : kind < 128) (k6 : time < 18446744073709551616)
    (h0 : pid = 0 → epoch = 0 ∧ seq = 0) (hm : mk = true → seq = 0) : HeadAt (headS mk base pid epoch seq kind time ++ post) mk base pid epoch seq kind time (headS mk base pid epoch seq kind time).length := by
  have e1 : Wn.enc 1 = [1] := by rw [enc_small 1 (by omega)]; rfl
  have e2 : Wn.enc kind = [UInt8.ofNat kind] := enc_small kind k5
  have e3 : (UInt8.ofNat kind).toNat = kind := by rw [UInt8.toNat_ofNat']; exact Nat.mod_eq_of_lt (by omega)
  unfold headS
  rw [e1, e2]
  obtain ⟨mid, hmid⟩ : ∃ mid : List UInt8, (if pid = 0 then [] else Wn.enc epoch ++ (if mk = true then [] else Wn.enc seq)) = mid := ⟨_, rfl⟩
  rw [hmid]
  have B1 := dByte_at [] (UInt8.ofNat kind :: (Wn.enc base ++ (Wn.enc pid ++ (mid ++ (Wn.enc time ++ post))))) 1
  have B2 := dByte_at [1] (Wn.enc base ++ (Wn.enc pid ++ (mid ++ (Wn.enc time ++ post)))) (UInt8.ofNat kind)
  have B3 := dUint_at [1, UInt8.ofNat kind] (Wn.enc pid ++ (mid ++ (Wn.enc time ++ post))) base k1
  have B4 := dUint_at ([1, UInt8.ofNat kind] ++ Wn.enc base) (mid ++ (Wn.enc time ++ post)) pid k2
  have B7 := dUint_at ([1, UInt8.ofNat kind] ++ Wn.enc base ++ Wn.enc pid ++ mid) post time k6
  rw [e3] at B2
  simp only [List.append_assoc, List.cons_append, List.nil_append, List.length_nil, List.length_cons, Nat.zero_add] at B1 B2 B3 B4 B7 ⊢
  by_cases hp : pid = 0
  · rw [if_pos hp] at hmid
    subst hmid
    simp only [List.nil_append, List.append_nil] at B1 B2 B3 B4 B7 ⊢
    exact ⟨_, _, 0, _, B1, B2, B3, B4, fun _ => ⟨(h0 hp).1, (h0 hp).2, rfl⟩, fun h => absurd hp h, B7⟩
  · rw [if_neg hp] at hmid
    cases mk with
    | true =>
      simp only [if_true, reduceIte, List.append_nil] at hmid
      subst hmid
      have B5 := dUint_at ([1, UInt8.ofNat kind] ++ Wn.enc base ++ Wn.enc pid) (Wn.enc time ++ post) epoch k3
      simp only [List.append_assoc, List.cons_append, List.nil_append] at B5
      exact ⟨_, _, _, _, B1, B2, B3, B4, fun h => absurd h hp, fun _ => ⟨B5, fun _ => ⟨hm rfl, rfl⟩, (fun h => by cases h)⟩, B7⟩
    | false =>
      simp only [if_false, reduceIte, Bool.false_eq_true] at hmid
      subst hmid
      have B5 := dUint_at ([1, UInt8.ofNat kind] ++ Wn.enc base ++ Wn.enc pid) (Wn.enc seq ++ (Wn.enc time ++ post)) epoch k3
      have B6 := dUint_at ([1, UInt8.ofNat kind] ++ Wn.enc base ++ Wn.enc pid ++ Wn.enc epoch) (Wn.enc time ++ post) seq k4
      simp only [List.append_assoc, List.cons_append, List.nil_append] at B1 B2 B3 B4 B5 B6 B7 ⊢
      exact ⟨_, _, _, _, B1, B2, B3, B4, fun h => absurd h hp, fun _ => ⟨B5, (fun h => by cases h), fun _ => B6⟩, B7⟩
theorem fine_form (b : Bat) (hF : Fine b) : (b.pid = 0 → b.epoch = 0 ∧ b.seq = 0) ∧ (markB b = true → b.seq = 0 ∧ b.L = []) ∧ (markB b = false → 0 < b.L.length) := by
  have h := hF.form
  unfold formB at h
  split at h
  · cases h
  · rename_i h1
    refine ⟨fun hp => ?_, fun hm => ?_, fun hm => ?_⟩
    · simp [hp] at h1
      omega
    · rw [if_pos hm] at h
      simp at h
      exact h
    · rw [if_neg (by rw [hm]; decide)] at h
      simpa using h
theorem batAt_enc (b : Bat) (hF : Fine b) : BatAt (encB b) b := by
  obtain ⟨f1, f2, f3⟩ := fine_form b hF
  have a1 := hF.b1; have a2 := hF.b2; have a3 := hF.p1; have a4 := hF.p2; have a5 := hF.e1; have a6 := hF.e2; have a7 := hF.s1; have a8 := hF.s2; have a9 := hF.k1; have a10 := hF.k2; have a11 := hF.t1; have a12 := hF.t2
  have hh := fun post => headAt_enc (markB b) b.base.toNat b.pid.toNat b.epoch.toNat b.seq.toNat b.kind.toNat b.time.toNat post (by omega) (by omega) (by omega) (by omega) (by omega) (by omega) (fun h => by have := f1 (by omega); omega) (fun h => by have := (f2 h).1; omega)
  refine ⟨hF, (headOf b).length, ?_, fun hm => ⟨(f2 hm).2, ?_⟩, fun hm => ?_⟩
  · unfold encB
    by_cases hm : markB b = true
    · rw [if_pos hm]
      have := hh []
      rw [List.append_nil] at this
      exact this
    · rw [if_neg hm, List.append_assoc]
      exact hh _
  · unfold encB
    rw [if_pos hm]
  · have he : encB b = headOf b ++ (Wn.enc b.L.length ++ (rowsS b.L b.time b.L.length).flatten) := by
      unfold encB
      rw [if_neg (by rw [hm]; decide), List.append_assoc]
    refine ⟨fun k => (headOf b ++ Wn.enc b.L.length ++ (rowsS b.L b.time k).flatten).length, ?_, ?_, fun k hk => ?_⟩
    · rw [he, dUint_at _ _ _ (by have := hF.len; omega)]
      simp [rowsS]
    · show (headOf b ++ Wn.enc b.L.length ++ (rowsS b.L b.time b.L.length).flatten).length = _
      rw [he, List.append_assoc]
    · have hr : recE (b.L.getD k default) = 0 := hF.recs _ (by rw [List.getD_eq_getElem?_getD, List.getElem?_eq_getElem hk]; exact List.getElem_mem _)
      obtain ⟨post, hpost⟩ := rowsS_take b.L b.time (k + 1) hk
      have hs : (rowsS b.L b.time (k + 1)).flatten = (rowsS b.L b.time k).flatten ++ recS (b.L.getD k default) b.time (prevKey b.L k) := by rw [rowsS_succ, List.flatten_append]; simp
      have hl : encB b = (headOf b ++ Wn.enc b.L.length ++ (rowsS b.L b.time k).flatten) ++ (recS (b.L.getD k default) b.time (prevKey b.L k) ++ post) := by
        rw [he, hpost, hs]
        simp only [List.append_assoc]
      have := recAt_enc (headOf b ++ Wn.enc b.L.length ++ (rowsS b.L b.time k).flatten) post b.time (prevKey b.L k) (b.L.getD k default) hr hF.t1 hF.t2
      rw [← hl] at this
      show RecAt _ _ _ _ _ (headOf b ++ Wn.enc b.L.length ++ (rowsS b.L b.time (k + 1)).flatten).length
      rw [hs, ← List.append_assoc]
      exact this

theorem ok_inj {v v' : Value} {q q' : Nat} (h : Dr.ok v q = Dr.ok v' q') : v = v' ∧ q = q' := by injection h with h1 h2; exact ⟨h1, h2⟩
theorem int_inj {k : IntKind} {a b : Int} (h : Value.int k a = Value.int k b) : a = b := by injection h
theorem recAt_one {l : List UInt8} {time : Int} {last : ByteArray} {p q q' : Nat} {r r' : Rec} (h : RecAt l time last p r q) (h' : RecAt l time last p r' q') : r = r' ∧ q = q' := by
  obtain ⟨p1, p2, p3, p4, t, a1, a2, a3, a4, a5, a6, a7⟩ := h.at_
  obtain ⟨p1', p2', p3', p4', t', b1, b2, b3, b4, b5, b6, b7⟩ := h'.at_
  rw [a1] at b1
  obtain ⟨c1, rfl⟩ := ok_inj b1
  have ct := int_inj c1
  rw [a3] at b3
  obtain ⟨c3, rfl⟩ := ok_inj b3
  have cg : r.gone = r'.gone := by injection c3
  rw [a4] at b4
  obtain ⟨c4, rfl⟩ := ok_inj b4
  have cn := int_inj c4
  have cn' : comm last.data.toList r.key.data.toList = comm last.data.toList r'.key.data.toList := by omega
  rw [a5] at b5
  obtain ⟨c5, rfl⟩ := ok_inj b5
  have cx : r.key.extract (comm last.data.toList r.key.data.toList) r.key.size = r'.key.extract (comm last.data.toList r'.key.data.toList) r'.key.size := by injection c5
  have ck : r.key = r'.key := by
    rw [← key_again last r.key, ← key_again last r'.key, cx, cn']
  have ctt : r.time = r'.time := by rw [a2, b2, ct]
  cases hg : r.gone with
  | true =>
    obtain ⟨v1, rfl⟩ := a6 hg
    obtain ⟨v2, rfl⟩ := b6 (by rw [← cg]; exact hg)
    refine ⟨?_, rfl⟩
    obtain ⟨k1, v1', g1, t1⟩ := r
    obtain ⟨k2, v2', g2, t2⟩ := r'
    simp only at ck ctt cg v1 v2
    rw [ck, ctt, cg, v1, v2]
  | false =>
    have d1 := a7 hg
    have d2 := b7 (by rw [← cg]; exact hg)
    rw [d1] at d2
    obtain ⟨c7, rfl⟩ := ok_inj d2
    have cv : r.value = r'.value := by injection c7
    refine ⟨?_, rfl⟩
    obtain ⟨k1, v1', g1, t1⟩ := r
    obtain ⟨k2, v2', g2, t2⟩ := r'
    simp only at ck ctt cg cv
    rw [ck, ctt, cg, cv]
theorem batAt_one {l : List UInt8} {a b : Bat} (ha : BatAt l a) (hb : BatAt l b) : a = b := by
  have A := ha.fine
  have B := hb.fine
  obtain ⟨q, h1, h2, h3⟩ := ha.at_
  obtain ⟨q', g1, g2, g3⟩ := hb.at_
  obtain ⟨p3, p4, p5, p6, a1, a2, a3, a4, a5, a6, a7⟩ := h1.at_
  obtain ⟨p3', p4', p5', p6', b1, b2, b3, b4, b5, b6, b7⟩ := g1.at_
  have x1 := A.b1; have x2 := A.p1; have x3 := A.e1; have x4 := A.s1; have x5 := A.k1; have x6 := A.t1
  have y1 := B.b1; have y2 := B.p1; have y3 := B.e1; have y4 := B.s1; have y5 := B.k1; have y6 := B.t1
  rw [a2] at b2
  have ck : a.kind = b.kind := by have := int_inj (ok_inj b2).1; omega
  rw [a3] at b3
  obtain ⟨c3, rfl⟩ := ok_inj b3
  have cb : a.base = b.base := by have := int_inj c3; omega
  rw [a4] at b4
  obtain ⟨c4, rfl⟩ := ok_inj b4
  have cp : a.pid = b.pid := by have := int_inj c4; omega
  have cm : markB a = markB b := by unfold markB; rw [ck]
  have mid : a.epoch = b.epoch ∧ a.seq = b.seq ∧ p6 = p6' := by
    by_cases hp : a.pid = 0
    · obtain ⟨u1, u2, u3⟩ := a5 (by omega)
      obtain ⟨v1, v2, v3⟩ := b5 (by omega)
      exact ⟨by omega, by omega, by omega⟩
    · obtain ⟨u1, u2, u3⟩ := a6 (by omega)
      obtain ⟨v1, v2, v3⟩ := b6 (by omega)
      rw [u1] at v1
      obtain ⟨c5, rfl⟩ := ok_inj v1
      have ce := int_inj c5
      cases hm : markB a with
      | true =>
        obtain ⟨w1, w2⟩ := u2 hm
        obtain ⟨z1, z2⟩ := v2 (by rw [← cm]; exact hm)
        exact ⟨by omega, by omega, by omega⟩
      | false =>
        have w1 := u3 hm
        have z1 := v3 (by rw [← cm]; exact hm)
        rw [w1] at z1
        obtain ⟨c6, rfl⟩ := ok_inj z1
        have cs := int_inj c6
        exact ⟨by omega, by omega, rfl⟩
  obtain ⟨ce, cs, rfl⟩ := mid
  rw [a7] at b7
  obtain ⟨c7, rfl⟩ := ok_inj b7
  have ct : a.time = b.time := by have := int_inj c7; omega
  have cL : a.L = b.L := by
    cases hm : markB a with
    | true => rw [(h2 hm).1, (g2 (by rw [← cm]; exact hm)).1]
    | false =>
      obtain ⟨P, u1, u2, u3⟩ := h3 hm
      obtain ⟨P', v1, v2, v3⟩ := g3 (by rw [← cm]; exact hm)
      rw [u1] at v1
      obtain ⟨c8, hP⟩ := ok_inj v1
      have cl : a.L.length = b.L.length := by have := int_inj c8; omega
      have key : ∀ k, k ≤ a.L.length → P k = P' k ∧ prevKey a.L k = prevKey b.L k ∧ ∀ j, j < k → a.L.getD j default = b.L.getD j default := by
        intro k
        induction k with
        | zero => intro _; exact ⟨hP, rfl, fun j hj => absurd hj (by omega)⟩
        | succ k ih =>
          intro hk
          obtain ⟨i1, i2, i3⟩ := ih (by omega)
          have r1 := u3 k (by omega)
          have r2 := v3 k (by omega)
          rw [i1, i2, ct] at r1
          obtain ⟨s1, s2⟩ := recAt_one r1 r2
          refine ⟨s2, ?_, fun j hj => ?_⟩
          · show (a.L.getD k default).key = (b.L.getD k default).key
            rw [s1]
          · rcases Nat.lt_or_ge j k with g | g
            · exact i3 j g
            · rw [show j = k from by omega]; exact s1
      have k2 := (key a.L.length (Nat.le_refl _)).2.2
      refine List.ext_getElem cl fun i hi1 hi2 => ?_
      have := k2 i hi1
      rwa [List.getD_eq_getElem?_getD, List.getD_eq_getElem?_getD, List.getElem?_eq_getElem hi1, List.getElem?_eq_getElem hi2] at this
  obtain ⟨m1, m2, m3, m4, m5, m6, m7⟩ := a
  obtain ⟨n1, n2, n3, n4, n5, n6, n7⟩ := b
  simp only at ck cb cp ce cs ct cL
  rw [ck, cb, cp, ce, cs, ct, cL]
theorem encB_one {a b : Bat} (ha : Fine a) (hb : Fine b) (h : encB a = encB b) : a = b := batAt_one (batAt_enc a ha) (by rw [h]; exact batAt_enc b hb)
end Go.Proofs.Ytabbbamokhaaoaa
