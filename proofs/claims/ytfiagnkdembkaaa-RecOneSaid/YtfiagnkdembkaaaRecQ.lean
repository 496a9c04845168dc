/-
  What slices.Equal of records does.
-/
import Derived.Test.YtfiagnkdembkaaaRecS
namespace Go.Proofs.Ytfiagnkdembkaaa
open Go.RowKit
set_option linter.unusedVariables false
set_option linter.unusedSimpArgs false

theorem list_ne_at {L M : List Rec} (h : L.length = M.length) (hne : L ≠ M) : ∃ k, k < L.length ∧ L.getD k default ≠ M.getD k default := by
  refine Classical.byContradiction fun hc => hne ?_
  refine List.ext_getElem h fun i h1 h2 => ?_
  have := Classical.byContradiction fun h3 => hc ⟨i, h1, h3⟩
  rwa [List.getD_eq_getElem?_getD, List.getD_eq_getElem?_getD, List.getElem?_eq_getElem h1, List.getElem?_eq_getElem h2] at this

set_option maxRecDepth 100000 in
set_option maxHeartbeats 4000000 in
theorem equal_any (sm : Bool) (A1 A2 : Option Addr) (n1 n2 c1 c2 B : Nat) (L1 L2 : List Rec) (w : World) (h1 : Rcs w B A1 n1 L1) (h2 : Rcs w B A2 n2 L2) (hl1 : n1 ≤ maxLen) (hl2 : n2 ≤ maxLen) (hs : sm = true ↔ L1 = L2) :
    Calls Try.prog 104 #[.slice A1 n1 c1, .slice A2 n2 c2] w fun e w' => e = .returned (.bool sm) ∧ ∃ q, w' = w.drewN q := by
  unfold maxLen at hl1 hl2
  have e1 := h1.len
  have e2 := h2.len
  by_cases hn : n1 = n2
  · subst hn
    have HS := Lib.hid hs
    have H1 := Lib.hid h1
    have H2 := Lib.hid h2
    have E1 := Lib.hid e1
    have E2 := Lib.hid e2
    clear hs h1 h2 e1 e2
    have enn : ((n1 : Int) != (n1 : Int)) = false := by simp
    go_enter Try.func104, Try.ntmps104
    go_wp2_with fail
    go_loopw [13] (fun i wr => ∃ k : Nat, k ≤ n1 ∧ i = .int .i64 k ∧ (∀ j, j < k → L1.getD j default = L2.getD j default) ∧ ∃ q, wr = w.drewN q) (fun i _ => n1 - (intOf i).toNat)
    case atStart => exact ⟨0, by omega, rfl, fun j hj => absurd hj (by omega), 0, rfl⟩
    case round =>
      obtain ⟨k, hk, rfl, hz, q, rfl⟩ := hrel
      have HZ := Lib.hid hz
      clear hz
      by_cases hlt : k < n1
      · obtain ⟨p, rfl, hp, r0, r1, r2, r3⟩ := H1.out.row hlt
        obtain ⟨p', rfl, hp', r0', r1', r2', r3'⟩ := H2.out.row hlt
        have HNX : Hid (L1.getD k default = L2.getD k default → ∀ j, j < k + 1 → L1.getD j default = L2.getD j default) := fun h j hj => by
          rcases Nat.lt_or_ge j k with g | g
          · exact HZ.out j g
          · rw [show j = k from by omega]; exact h
        have HNE : Hid (L1.getD k default ≠ L2.getD k default → L1 ≠ L2) := fun h e => h (by rw [e])
        generalize L1.getD k default = r at *
        generalize L2.getD k default = r' at *
        by_cases hr : r = r'
        · subst hr
          obtain ⟨key, value, gone, rt⟩ := r
          simp only at r0 r1 r2 r3 r0' r1' r2' r3'
          go_wp2_with fail
          go_quiet (fail)
          go_wp2_with fail
          go_roundw
          case rel => exact ⟨k + 1, by omega, by go_num, HNX.out (by first | rfl | trivial), q + nq, by simp⟩
          case measure => simp [intOf]; omega
        · have hsm : sm = false := by
            cases sm with
            | false => rfl
            | true => exact absurd (HS.out.1 rfl) (HNE.out hr)
          obtain ⟨key, value, gone, rt⟩ := r
          obtain ⟨key', value', gone', rt'⟩ := r'
          simp only at r0 r1 r2 r3 r0' r1' r2' r3'
          have HSM := Lib.hid hsm
          clear hsm HNX HNE
          by_cases x1 : key = key'
          · subst x1
            by_cases x2 : value = value'
            · subst x2
              by_cases x3 : gone = gone'
              · subst x3
                have x4 : (rt == rt') = false := by
                  rw [beq_eq_false_iff_ne]
                  intro h
                  exact hr (by rw [h])
                clear hr
                go_wp2_with fail
                go_quiet (fail)
                go_wp2_with fail
                go_ret
                exact ⟨by rw [HSM.out]; rfl, q + nq, by simp⟩
              · have x4 : (gone == gone') = false := by rw [beq_eq_false_iff_ne]; exact x3
                clear hr x3
                go_wp2_with fail
                go_quiet (fail)
                go_wp2_with fail
                go_ret
                exact ⟨by rw [HSM.out]; rfl, q + nq, by simp⟩
            · have x4 : (value.toList == value'.toList) = false := by
                rw [beq_eq_false_iff_ne]
                intro h
                exact x2 (by rw [ByteArray.toList_eq, ByteArray.toList_eq] at h; cases value; cases value'; simp only at h; congr 1; exact Array.ext' h)
              have x5 : (value == value') = false := by rw [beq_toListBytes]; exact x4
              clear hr x2
              go_wp2_with fail
              go_quiet (fail)
              go_wp2_with fail
              go_ret
              exact ⟨by rw [HSM.out]; rfl, q + nq, by simp⟩
          · have x4 : (key.toList == key'.toList) = false := by
              rw [beq_eq_false_iff_ne]
              intro h
              exact x1 (by rw [ByteArray.toList_eq, ByteArray.toList_eq] at h; cases key; cases key'; simp only at h; congr 1; exact Array.ext' h)
            have x5 : (key == key') = false := by rw [beq_toListBytes]; exact x4
            clear hr x1
            go_wp2_with fail
            go_quiet (fail)
            go_wp2_with fail
            go_ret
            exact ⟨by rw [HSM.out]; rfl, q + nq, by simp⟩
      · obtain rfl : k = n1 := by omega
        have HSM : Hid (sm = true) := HS.out.2 (by
          refine List.ext_getElem (by rw [E1.out, E2.out]) fun i g1 g2 => ?_
          have := HZ.out i (by rw [← E1.out]; exact g1)
          rwa [List.getD_eq_getElem?_getD, List.getD_eq_getElem?_getD, List.getElem?_eq_getElem g1, List.getElem?_eq_getElem g2] at this)
        go_wp2_with fail
        go_ret
        exact ⟨by rw [HSM.out]; rfl, q, rfl⟩
  · have hsm : sm = false := by
      cases sm with
      | false => rfl
      | true => have := hs.1 rfl; rw [this] at e1; omega
    subst hsm
    have enn : ((n1 : Int) != (n2 : Int)) = true := by rw [bne_iff_ne]; omega
    clear hn hs e1 e2
    go_enter Try.func104, Try.ntmps104
    go_wp2_with fail
    go_ret
    exact ⟨rfl, 0, rfl⟩
end Go.Proofs.Ytfiagnkdembkaaa
