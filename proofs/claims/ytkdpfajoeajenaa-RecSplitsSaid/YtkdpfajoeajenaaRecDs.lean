/-
  What decoder.records does where all can be read.
-/
import Derived.Test.YtkdpfajoeajenaaRecDr
namespace Go.Proofs.Ytkdpfajoeajenaa
open Go.RowKit
set_option linter.unusedVariables false
set_option linter.unusedSimpArgs false

section
variable {w w' w'' : World} {d g c p : Nat} {A : Option Addr} {l : List UInt8}
theorem Dc.grown {o : Option Nat} (h : Dc w d g A c l p) (hg : w.grownBy w' o) (ho : ∀ k, o = some k → d < k) : Dc w' d g A c l p := by
  have hl := h.lt
  have hr := h.rd
  have hk : ∀ i, i ≤ d → w'.heap[i]? = w.heap[i]? := fun i hi => hg.block i (by have := h.dlt; omega) (fun e => by have := ho i e.symm; omega)
  exact ⟨(hk d (Nat.le_refl _)).trans h.blk, ⟨(hk g (by omega)).trans hr.blk, hr.cap, hr.capm, hr.bs.keep fun x hx => World.cell?_of_block (hk x.block (by omega)), hr.pos, hr.small⟩, h.lt⟩
end
set_option maxRecDepth 100000 in
set_option maxHeartbeats 4000000 in
theorem drecs_ok (d g c p n : Nat) (A : Option Addr) (l : List UInt8) (time : Int) (L : List Rec) (P : Nat → Nat) (w : World) (h : Dc w d g A c l p) (hp : dUint l p = .ok (.int .u64 (n : Int)) (P 0)) (hn : L.length = n) (hn2 : n ≤ 64)
    (hr : ∀ k, k < n → RecAt l time (prevKey L k) (P k) (L.getD k default) (P (k + 1))) (hf : ∀ r ∈ L, recE r = 0) (t3 : 0 ≤ time) (t4 : time ≤ 1099511627776) :
    Calls Try.prog 90 #[.pointer (some ⟨d, 0, none⟩), .int .i64 time] w fun e w' => ∃ A' c', e = .returned (.slice A' n c') ∧ n ≤ c' ∧ c' ≤ maxLen ∧ Rcs w' w'.heap.size A' n L ∧ (∀ p, A' = some p → w.heap.size ≤ p.block) ∧ Dc w' d g A c l (P n) ∧ Two g d w w' := by
  obtain ⟨j0, qj0, qy0, qy1, qy2⟩ := info_parts zero_rec
  have hdl := h.dlt
  have hgl := h.lt
  have HU := Lib.hid (upTo_ok d g c p (P 0) n 64 A l w h hp hn2 (by omega))
  have HR : Hid (∀ W k, Dc W d g A c l (P k) → k < n → Calls Try.prog 105 #[.pointer (some ⟨d, 0, none⟩), .int .i64 time, .string (prevKey L k)] W fun e w' => e = .returned (.agg (L.getD k default).cells.toArray) ∧ Dc w' d g A c l (P (k + 1)) ∧ Two g d W w') := fun W k hW hk => by
    have hm : ∀ j, j < n → recE (L.getD j default) = 0 := fun j hj => hf _ (by rw [List.getD_eq_getElem?_getD, List.getElem?_eq_getElem (by omega)]; exact List.getElem_mem _)
    obtain ⟨x1, x2, x3, x4, _⟩ := recE_zero (hm k hk)
    refine drec_ok d g c (P k) (P (k + 1)) A l time _ _ W hW (hr k hk) t3 t4 x3 x4 ?_ x1
    cases k with
    | zero => show (0 : Nat) ≤ 1024; omega
    | succ j => exact (recE_zero (hm j (by omega))).1
  have HOK : Hid (∀ r ∈ L, i64_ r.time) := fun r hr => by obtain ⟨_, _, x3, x4, _⟩ := recE_zero (hf r hr); unfold i64_; omega
  have HN := Lib.hid hn
  clear h hp hr hf hn
  go_enter Try.func90, Try.ntmps90
  go_wp2_with fail
  refine HU.out.mono ?_
  rintro e w1 ⟨rfl, hD1, hT1⟩
  clear HU
  go_wp2_with fail
  go_loopw [5, 6, 10] (fun v s i wr => ∃ k : Nat, k ≤ n ∧ i = .int .i64 k ∧ s = .string (prevKey L k) ∧ wr.ownsRow w.heap.size 38 4 v k (rcells (L.take k)) ∧ Dc wr d g A c l (P k) ∧ Two g d w wr) (fun _ _ i _ => n - (intOf i).toNat)
  case atStart => exact ⟨0, by omega, rfl, rfl, World.ownsRow_nil _ _ _ _, hD1, hT1⟩
  case round =>
    obtain ⟨k, hk, rfl, rfl, hown, hD, hT⟩ := hrel
    have zr := hT.size
    by_cases hlt : k < n
    · have HRk := Lib.hid (HR.out wr k hD hlt)
      have HS := Lib.hid (rcells_succ L k (by rw [HN.out]; exact hlt))
      have HP : Hid (prevKey L (k + 1) = (L.getD k default).key) := rfl
      generalize prevKey L k = pk at *
      generalize L.getD k default = r at *
      obtain ⟨key, value, gone, rt⟩ := r
      simp only [Rec.cells] at *
      have HOWN := Lib.hid hown
      clear hown hD
      go_wp2_with fail
      refine HRk.out.mono ?_
      rintro e w2 ⟨rfl, hD2, hT2⟩
      have hown2 := (row_two HOWN.out hT2 (by omega) hdl)
      have hT2' := hT.trans hT2
      have z2 := hT2.size
      have hown3 := (hown2.alloc (.cells #[.string key, .string value, .bool gone, .int .i64 rt] 38)).alloc (.cells #[.string key, .string value, .bool gone, .int .i64 rt] 38)
      have hD3 := (hD2.alloc (.cells #[.string key, .string value, .bool gone, .int .i64 rt] 38)).alloc (.cells #[.string key, .string value, .bool gone, .int .i64 rt] 38)
      have hT3 := hT2'.trans (Two.of_below (g := g) (d := d) (((Below.refl w2.heap.size w2).alloc (Nat.le_refl _) (.cells #[.string key, .string value, .bool gone, .int .i64 rt] 38)).alloc (by simp) (.cells #[.string key, .string value, .bool gone, .int .i64 rt] 38)))
      have hsz : ((w2.alloc (.cells #[.string key, .string value, .bool gone, .int .i64 rt] 38)).alloc (.cells #[.string key, .string value, .bool gone, .int .i64 rt] 38)).heap.size = w2.heap.size + 2 := by simp
      have HSZ := Lib.hid hsz
      have hnb : ∀ j u, [Value.string key, .string value, .bool gone, .int .i64 rt][j]? = some u → ((w2.alloc (.cells #[.string key, .string value, .bool gone, .int .i64 rt] 38)).alloc (.cells #[.string key, .string value, .bool gone, .int .i64 rt] 38)).cell? ((⟨w2.heap.size + 1, 0, none⟩ : Addr).add j) = some u := fun j u hj => by
        have := (Lies.of_new (w2.alloc (.cells #[.string key, .string value, .bool gone, .int .i64 rt] 38)) #[.string key, .string value, .bool gone, .int .i64 rt] 38).get j u hj
        obtain ⟨q, hq, _, hc⟩ := this
        injection hq with hq
        subst hq
        rw [show (w2.alloc (.cells #[.string key, .string value, .bool gone, .int .i64 rt] 38)).heap.size = w2.heap.size + 1 from by simp] at hc
        exact hc
      have HNB := Lib.hid hnb
      have HOWN3 := Lib.hid hown3
      have HD3 := Lib.hid hD3
      have HT3 := Lib.hid hT3
      have hkey : ((w2.alloc (.cells #[.string key, .string value, .bool gone, .int .i64 rt] 38)).alloc (.cells #[.string key, .string value, .bool gone, .int .i64 rt] 38)).heap[w2.heap.size]? = some (.cells #[.string key, .string value, .bool gone, .int .i64 rt] 38 (0, 0)) := by
        rw [← heap_alloc_new w2 (.cells #[.string key, .string value, .bool gone, .int .i64 rt] 38)]
        exact ((Below.refl (w2.alloc (.cells #[.string key, .string value, .bool gone, .int .i64 rt] 38)).heap.size _).alloc (Nat.le_refl _) _).block w2.heap.size (by simp)
      have HKEY := Lib.hid hkey
      have hownlt := World.ownsRow.lt hown2
      have HLT := Lib.hid hownlt
      clear hown2 hown3 hD3 hT3 hnb hkey hD2 hT2 hT2' HRk HOWN hsz hownlt
      go_wp2_with (at_builtin; refine wpList_append_own_at _ rfl (.tmp 16) (.tmp 18) 22 rfl w.heap.size 38 j0 _ 4 48 Try.underlying22 qj0 qy0 qy1 qy2 rfl (by decide) _ k (rcells (L.take k)) rfl HOWN3.out ⟨w2.heap.size + 1, 0, none⟩ 1 1 [.string key, .string value, .bool gone, .int .i64 rt] rfl rfl HNB.out ?g1 ?g2 ?g3 ?g4 ?_)
      case g1 => intro u hu; simp at hu; rcases hu with rfl | rfl | rfl | rfl <;> rfl
      case g2 => unfold maxLen; omega
      case g3 => omega
      case g4 => rw [HSZ.out]; omega
      intro v4 w4 hown4 hg4 _ _
      have hk4 := (hg4.block w2.heap.size (by rw [HSZ.out]; omega) (fun e => by have := (HLT.out _ e.symm).2; omega)).trans HKEY.out
      have hD4 := HD3.out.grown hg4 (fun k hk => by have := (HLT.out k hk).1; omega)
      have hT4 := HT3.out.grow hg4 (fun k hk => (HLT.out k hk).1)
      have c0 : w4.cell? ⟨w2.heap.size, 0, none⟩ = some (.string key) := cell_of_row w4 _ 0 _ _ _ hk4
      clear hg4 hk4 HD3 HT3 HKEY HOWN3 HNB
      have HD4 := Lib.hid hD4
      have HT4 := Lib.hid hT4
      have HOWN4 := Lib.hid hown4
      clear hD4 hT4 hown4
      go_wp2
      go_roundw
      case rel => exact ⟨k + 1, by omega, by go_num, by rw [HP.out], by rw [HS.out]; exact HOWN4.out, HD4.out, HT4.out⟩
      case measure => simp [intOf]; omega
    · obtain rfl : k = n := by omega
      rw [List.take_of_length_le (by rw [HN.out]; exact Nat.le_refl _)] at hown
      obtain ⟨A', c', rfl, h1, h2, h3, h4⟩ := Rcs.of_own hown HN.out HOK.out
      have H3 := Lib.hid h3
      have H4 := Lib.hid h4
      have HD := Lib.hid hD
      clear h3 h4 hown hD
      go_wp2_with fail
      go_ret
      exact ⟨A', c', rfl, h1, h2, H3.out, H4.out, HD.out, hT⟩
end Go.Proofs.Ytkdpfajoeajenaa
