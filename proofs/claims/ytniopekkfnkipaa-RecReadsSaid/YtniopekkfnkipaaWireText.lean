/-
  What wire's addText, Text, Texts and Ints do.
-/
import Derived.Test.YtniopekkfnkipaaWireInt
import Derived.Lib.AppendStr
namespace Go.Proofs.Ytniopekkfnkipaa
open Go.RowKit
set_option linter.unusedVariables false
set_option linter.unusedSimpArgs false

def encT (s : ByteArray) : List UInt8 := Wn.enc s.size ++ s.data.toList
theorem encT_len (s : ByteArray) : (encT s).length ≤ s.size + 10 := by
  have := (Wn.enc_len s.size).2
  unfold encT
  have e : s.data.toList.length = s.size := by rw [Array.length_toList]; rfl
  rw [List.length_append]
  omega

set_option maxHeartbeats 1000000 in
theorem addText_any (v : Value) (base : Nat) (l : List UInt8) (s : ByteArray) (w : World) (hown : Own w base v l) (hlen : l.length ≤ 1099511627776) (hs : s.size ≤ 1099511627776) (hbase : base ≤ w.heap.size) :
    Calls Try.prog 67 #[v, .string s] w fun e w' => ∃ v', e = .returned v' ∧ Own w' base v' (l ++ encT s) ∧ Below base w w' := by
  obtain ⟨i0, hi0, hz0, hz1, hz2⟩ := info_parts byte_info
  have HU := Lib.hid (addUint_any v base l s.size w (by omega) hown hlen hbase)
  have HE : Hid (l ++ encT s = (l ++ Wn.enc s.size) ++ s.data.toList) := by show _ = _; unfold encT; rw [List.append_assoc]
  have hl2 : (l ++ Wn.enc s.size).length ≤ 1099511627786 := by have := (Wn.enc_len s.size).2; rw [List.length_append]; omega
  generalize l ++ Wn.enc s.size = acc at *
  clear hown
  go_enter Try.func67, Try.ntmps67
  go_wp2_with fail
  refine HU.out.mono ?_
  rintro e w1 ⟨v1, rfl, ho, hb⟩
  have hz := hb.size
  go_wp2_with (at_builtin; refine Lib.wpList_append_own_string _ rfl (.tmp 9) (.tmp 10) 25 9 rfl base 5 i0 Try.underlying25 Try.underlying9 hi0 hz0 hz1 hz2 _ acc.length (bvs acc) rfl ho s rfl (by unfold maxLen; omega) (by omega) (by omega) ?_)
  intro v2 w2 ho2 hg2 _
  have hb2 := hb.trans (grown_below ho hg2 (by omega))
  have R : Own w2 base v2 (acc ++ s.data.toList) := by
    unfold Own
    rw [bvs_append, List.length_append, Array.length_toList]
    exact ho2
  clear ho2 hg2 ho
  go_wp2_with fail
  go_ret
  exact ⟨_, rfl, by rw [HE.out]; exact R, hb2⟩

set_option maxHeartbeats 400000 in
theorem wText_any (s : ByteArray) (w : World) (hs : s.size ≤ 1099511627776) :
    Calls Try.prog 54 #[.string s] w fun e w' => ∃ v', e = .returned v' ∧ Own w' w.heap.size v' (encT s) ∧ Below w.heap.size w w' := by
  have HU := Lib.hid (addText_any (.slice none 0 0) w.heap.size [] s w (Own.nil_ _ _) (by simp) hs (Nat.le_refl _))
  generalize encT s = z at *
  go_enter Try.func54, Try.ntmps54
  go_wp2_with fail
  refine HU.out.mono ?_
  rintro e w1 ⟨v1, rfl, ho, hb⟩
  go_wp2_with fail
  go_ret
  exact ⟨_, rfl, ho, hb⟩
end Go.Proofs.Ytniopekkfnkipaa
