/-
  What frame.addWord and frame.Seal do.
-/
import Derived.Test.YthkkjefcdedlfaaSumA
namespace Go.Proofs.Ythkkjefcdedlfaa
open Go.RowKit

theorem byte_info : (Try.prog.info? 5).map (fun i => (i.zero, i.size, i.bytes)) = some (some (.int .u8 0), 1, 1) := by kernel_rfl

theorem grown_below {w w' : World} {base : Nat} {v : Value} {l : List UInt8} (hown : Own w base v l) (hg : w.grownBy w' v.ownBlock) (hb : base ≤ w.heap.size) : Below base w w' :=
  (Below.refl _ _).grown hg hb (fun k hk => (World.ownsRow.lt hown k hk).1)

theorem le4_cells (x : Nat) (_hx : x < 4294967296) : [Value.int .u8 ((x : Int) % 256), .int .u8 ((x : Int) / 256 % 256), .int .u8 ((x : Int) / 65536 % 256), .int .u8 ((x : Int) / 16777216)] = bvs (Crc.le4 x) := by
  simp only [bvs, Crc.le4, List.map_cons, List.map_nil, bv, UInt8.toNat_ofNat']
  simp
  omega

set_option maxRecDepth 100000 in
set_option maxHeartbeats 400000 in
theorem addWord_any (v : Value) (base : Nat) (l : List UInt8) (x : Nat) (w : World) (hx : x < 4294967296) (hown : Own w base v l) (hlen : l.length ≤ 1099511627776) (hbase : base ≤ w.heap.size) :
    Calls Try.prog 112 #[v, .int .u32 (x : Int)] w fun e w' => ∃ v', e = .returned v' ∧ Own w' base v' (l ++ Crc.le4 x) ∧ Below base w w' := by
  obtain ⟨i0, hi0, hz0, hz1, hz2⟩ := info_parts byte_info
  have HC := Lib.hid (le4_cells x hx)
  have HL := Lib.hid hlen
  clear hlen
  go_enter Try.func112, Try.ntmps112
  go_wp2_with (at_builtin; refine wpList_append_src _ rfl (.tmp 5) (.tmp 17) 23 rfl base 5 i0 _ 1 Try.underlying23 hi0 hz0 hz1 hz2 rfl v l.length (bvs l) rfl (hown.alloc _) (w.heap.size + 1) (some ⟨w.heap.size, 0, none⟩) 4 4 _ rfl rfl (Lies.of_new _ _ _) ?h1 ?h2 ?h3 ?h4 ?_)
  case h1 => exact ⟨rfl, rfl, rfl, rfl⟩
  case h2 => have := HL.out; unfold maxLen; omega
  case h3 => have := HL.out; omega
  case h4 => simp; omega
  intro v' w1 hown' hg _
  go_wp2
  go_ret
  refine ⟨v', rfl, ?_, ?_⟩
  · have e := HC.out
    unfold Own
    rw [bvs_append, ← e]
    simpa [Crc.le4_length] using hown'
  · exact ((Below.refl _ _).alloc hbase _).trans (grown_below (hown.alloc _) hg (by simp; omega))

theorem make_info : Try.prog.underlying 23 = some (.slice 5) := Try.underlying23

def tot (L : List (List UInt8)) : Nat := L.flatten.length
theorem tot_take (L : List (List UInt8)) (k : Nat) (h : k < L.length) : tot (L.take (k + 1)) = tot (L.take k) + (L.getD k []).length := by
  unfold tot
  rw [List.take_succ_eq_append_getElem h, List.flatten_append, List.length_append, List.getD_eq_getElem?_getD, List.getElem?_eq_getElem h]
  simp
theorem flat_take (L : List (List UInt8)) (k : Nat) (h : k < L.length) : (L.take (k + 1)).flatten = (L.take k).flatten ++ L.getD k [] := by
  rw [List.take_succ_eq_append_getElem h, List.flatten_append, List.getD_eq_getElem?_getD, List.getElem?_eq_getElem h]
  simp
theorem tot_le (L : List (List UInt8)) (k : Nat) : tot (L.take k) ≤ tot L := by
  unfold tot
  have : (L.take k).flatten.length + (L.drop k).flatten.length = L.flatten.length := by rw [← List.length_append, ← List.flatten_append, List.take_append_drop]
  omega

set_option maxHeartbeats 400000 in
theorem seal_long (A : Option Addr) (n c : Nat) (L : List (List UInt8)) (B : Nat) (w : World) (hL : Rs w B A n L) (hall : ∀ k, k < n → (L.getD k []).length ≤ 1099511627776) (hn : n ≤ maxLen) (ht : 262144 < tot L) :
    Calls Try.prog 44 #[.slice A n c] w fun e w' => e = .returned (.slice none 0 0) ∧ w = w' := by
  unfold maxLen at hn
  have HT := Lib.hid ht
  have HALL := Lib.hid hall
  clear hall
  clear ht
  have hlen := hL.len
  have hlen1 : L.length ≤ n := by omega
  have hlen2 : n ≤ L.length := by omega
  clear hlen
  go_enter Try.func44, Try.ntmps44
  go_wp2
  go_loop [3, 11] (fun t i => ∃ k : Nat, k ≤ n ∧ i = .int .i64 k ∧ t = .int .i64 (tot (L.take k) : Nat) ∧ tot (L.take k) ≤ 262144) (fun _ i => n - (intOf i).toNat)
  case atStart => exact ⟨0, by omega, rfl, rfl, by simp [tot]⟩
  case round =>
    obtain ⟨k, hk, rfl, rfl, hle⟩ := hrel
    by_cases hlt : k < n
    · obtain ⟨ad, A', c', rfl, hb, hc, hl, hm, hr⟩ := hL.row k hlt
      have hsm := HALL.out k hlt
      have HS := Lib.hid (tot_take L k (by omega))
      generalize tot (L.take k) = z at *
      generalize (L.getD k []) = l at *
      unfold maxLen at hm
      by_cases hbig : z + l.length ≤ 262144
      · go_wp2
        go_round
        case rel => exact ⟨k + 1, by omega, by go_num, by rw [HS.out]; go_num, by rw [HS.out]; exact hbig⟩
        case measure => simp [intOf]; omega
      · go_wp2
        go_ret
        exact ⟨rfl, rfl⟩
    · exfalso
      rw [List.take_of_length_le (by omega)] at hle
      have := HT.out
      omega

theorem seal_eq (L : List (List UInt8)) : (Crc.le4 (tot L) ++ L.flatten) ++ Crc.le4 (Crc.crc (Crc.le4 (tot L) ++ L.flatten)) = Crc.seal_ L.flatten := by
  simp [Crc.seal_, tot]

set_option maxRecDepth 100000 in
set_option maxHeartbeats 1000000 in
theorem seal_any (A : Option Addr) (n c : Nat) (L : List (List UInt8)) (B : Nat) (w : World) (hL : Rs w B A n L) (hB : B ≤ w.heap.size) (hn : n ≤ maxLen) (ht : tot L ≤ 262144) :
    Calls Try.prog 44 #[.slice A n c] w fun e w' => ∃ v, e = .returned v ∧ Own w' w.heap.size v (Crc.seal_ L.flatten) ∧ Below w.heap.size w w' := by
  obtain ⟨i0, hi0, hz0, hz1, hz2⟩ := info_parts byte_info
  unfold maxLen at hn
  have hlen := hL.len
  have hlen1 : L.length ≤ n := by omega
  have hlen2 : n ≤ L.length := by omega
  clear hlen
  have HE := Lib.hid (seal_eq L)
  go_enter Try.func44, Try.ntmps44
  go_wp2
  go_loop [3, 11] (fun t i => ∃ k : Nat, k ≤ n ∧ i = .int .i64 k ∧ t = .int .i64 (tot (L.take k) : Nat) ∧ tot (L.take k) ≤ 262144) (fun _ i => n - (intOf i).toNat)
  case atStart => exact ⟨0, by omega, rfl, rfl, by simp [tot]⟩
  case round =>
    obtain ⟨k, hk, rfl, rfl, hle⟩ := hrel
    by_cases hlt : k < n
    · obtain ⟨ad, A', c', rfl, hb, hc, hl, hm, hr⟩ := hL.row k hlt
      have HS := Lib.hid (tot_take L k (by omega))
      have hbig : tot (L.take k) + (L.getD k []).length ≤ 262144 := by
        have := tot_le L (k + 1)
        have := HS.out
        omega
      generalize tot (L.take k) = z at *
      generalize (L.getD k []) = l at *
      unfold maxLen at hm
      go_wp2
      go_round
      case rel => exact ⟨k + 1, by omega, by go_num, by rw [HS.out]; go_num, by rw [HS.out]; exact hbig⟩
      case measure => simp [intOf]; omega
    · have hkn : k = n := by omega
      subst hkn
      have hT : tot (L.take k) = tot L := by rw [List.take_of_length_le (by omega)]
      rw [hT]
      clear hT hle
      generalize hz : tot L = z at *
      have HZ := Lib.hid hz
      clear hz
      go_wp2_with (first
        | (at_make; refine wpList_make_own _ rfl _ _ 23 rfl w.heap.size 5 i0 _ 1 Try.underlying23 hi0 hz0 hz1 .i64 .i64 _ (z + 8) rfl rfl (by omega) (by rw [hz2]; omega) (by unfold maxLen; omega) (Nat.le_refl _) ?_))
      intro w1 hown1 hg1
      have hb1 : Below w.heap.size w w1 := (Below.refl _ _).grown hg1 (Nat.le_refl _) (by simp)
      go_wp2_with fail
      refine (addWord_any _ w.heap.size [] z _ (by omega) hown1 (by simp) hb1.size).mono ?_
      rintro e w2 ⟨v2, rfl, hown2, hb2⟩
      replace hb2 := hb1.trans hb2
      clear hown1 hg1 hb1
      go_wp2_with fail
      go_loopw [6, 30] (fun v i wr => ∃ m : Nat, m ≤ k ∧ i = .int .i64 m ∧ Own wr w.heap.size v (Crc.le4 z ++ (L.take m).flatten) ∧ Below w.heap.size w wr) (fun _ i _ => k - (intOf i).toNat)
      case atStart => exact ⟨0, by omega, rfl, by simpa using hown2, hb2⟩
      case round =>
        obtain ⟨m, hm, rfl, hown3, hb3⟩ := hrel
        clear hown2 hb2
        by_cases hlt2 : m < k
        · obtain ⟨ad, A', c', rfl, hb, hc, hl, hmx, hr⟩ := (hL.below (hb3.mono hB)).row m hlt2
          have hsm : (L.getD m []).length ≤ 262144 := by
            have h1 := tot_take L m (by omega)
            have h2 := tot_le L (m + 1)
            have h3 := HZ.out
            omega
          have HS := Lib.hid (flat_take L m (by omega))
          have hle : (Crc.le4 z ++ (L.take m).flatten).length ≤ 262148 := by
            have h1 := tot_le L m
            have h2 := HZ.out
            simp only [List.length_append, Crc.le4_length]
            unfold tot at h1 h2
            omega
          generalize L.getD m [] = l at *
          have HA : Hid (Crc.le4 z ++ (L.take (m + 1)).flatten = (Crc.le4 z ++ (L.take m).flatten) ++ l) := by rw [HS.out]; simp [Hid]
          clear HS
          generalize Crc.le4 z ++ (L.take m).flatten = acc at *
          unfold maxLen at hmx
          go_wp2_with (at_builtin; refine wpList_append_src _ rfl (.tmp 34) (.tmp 35) 23 rfl w.heap.size 5 i0 _ 1 Try.underlying23 hi0 hz0 hz1 hz2 rfl _ acc.length (bvs acc) rfl hown3 B A' l.length c' (bvs l) rfl (bvs_length l) hr.lies (bvs_one l) (by unfold maxLen; omega) (by omega) hb3.size ?_)
          intro v' w4 hown4 hg4 _
          have hb4 := hb3.trans (grown_below hown3 hg4 hb3.size)
          have R : Own w4 w.heap.size v' (acc ++ l) := by
            unfold Own
            rw [bvs_append, List.length_append]
            exact hown4
          clear hown4 hg4 hown3 hb3 hc hr
          go_wp2
          go_roundw
          case rel => exact ⟨m + 1, by omega, by go_num, by rw [HA.out]; exact R, hb4⟩
          case measure => simp [intOf]; omega
        · obtain rfl : m = k := by omega
          have hT : (L.take m).flatten = L.flatten := by rw [List.take_of_length_le (by omega)]
          rw [hT] at hown3
          clear hT
          have hle : (Crc.le4 z ++ L.flatten).length ≤ 262148 := by
            have h2 := HZ.out
            simp only [List.length_append, Crc.le4_length]
            unfold tot at h2
            omega
          generalize Crc.le4 z ++ L.flatten = acc at *
          obtain ⟨A4, c4, rfl, hl4, hm4, hbs4, hlt4, _⟩ := hown3.form
          go_wp2_with fail
          refine (sum_any _ _ _ [acc] _ _ (Rs.one hbs4 hl4 hm4 _) (by simp [maxLen])).mono ?_
          rintro e w5 ⟨rfl, rfl⟩
          go_wp2_with fail
          refine (addWord_any _ w.heap.size acc _ _ (Crc.crc_lt _) (hown3.alloc _) (by omega) (by have := hb3.size; simp; omega)).mono ?_
          rintro e w6 ⟨v6, rfl, hown6, hb6⟩
          have hb7 := (hb3.alloc hb3.size _).trans hb6
          clear hb6 hb3 hown3
          go_wp2_with fail
          go_ret
          exact ⟨v6, rfl, by rw [← HE.out]; exact hown6, hb7⟩
end Go.Proofs.Ythkkjefcdedlfaa
