/-
  The examples of chapter 2 (law02's awake).
-/
import Derived.Test.YthkkjefcdedlfaaOpenA
import Derived.Lib.SlBytesConst
namespace Go.Proofs.Ythkkjefcdedlfaa
open Go.RowKit
set_option linter.unusedVariables false
set_option linter.unusedSimpArgs false

def exA : List UInt8 := [97]
def exN : List UInt8 := [49, 50, 51, 52, 53, 54, 55, 56, 57]
theorem exA_seal : Crc.seal_ exA = [1, 0, 0, 0, 97, 99, 143, 247, 193] := by decide +kernel
theorem exA_size : Crc.size (Crc.seal_ exA) = 9 := by decide +kernel
theorem exA_body : Crc.body (Crc.seal_ exA) = exA := by decide +kernel
theorem exN_crc : Crc.crc exN = 3421780262 := by decide +kernel
theorem ex0_crc : Crc.crc [] = 0 := by decide +kernel

/-- 'Seal(b)' -/
theorem seal_one (A : Option Addr) (m c : Nat) (l : List UInt8) (w : World) (g : Nat) (hg : w.heap.size = g) (h : Bs w g A m l) (hm : m ≤ c) (hc : c ≤ maxLen) (hs : m ≤ 262144) :
    Calls Try.prog 44 #[.slice (some ⟨g, 0, none⟩) 1 1] (w.alloc (.cells #[.slice A m c] 23)) fun e w' =>
      ∃ A' c', e = .returned (.slice A' (l.length + 8) c') ∧ l.length + 8 ≤ c' ∧ c' ≤ maxLen ∧ Own w' (g + 1) (.slice A' (l.length + 8) c') (Crc.seal_ l) ∧ Below g w w' ∧ g + 1 ≤ w'.heap.size := by
  subst hg
  have hl := h.len
  refine (seal_any _ 1 1 [l] (w.heap.size + 1) _ (Rs.one h hm hc _) (by simp) (by decide) (by simp [tot]; omega)).mono ?_
  rintro e w1 ⟨v, rfl, hown, hb⟩
  simp only [List.flatten_cons, List.flatten_nil, List.append_nil] at hown
  obtain ⟨A1, c1, rfl, hc1, hm1, _⟩ := hown.form
  rw [Crc.seal_length] at hown hc1
  have hz := hb.size
  simp only [World.size_alloc] at hz hown hb
  exact ⟨A1, c1, by rw [Crc.seal_length], hc1, hm1, hown, ((Below.refl _ _).alloc (Nat.le_refl _) _).trans (hb.mono (by omega)), hz⟩
theorem sum_one (A : Option Addr) (m c : Nat) (l : List UInt8) (w : World) (g : Nat) (hg : w.heap.size = g) (h : Bs w g A m l) (hm : m ≤ c) (hc : c ≤ maxLen) (hs : m ≤ 1099511627776) :
    Calls Try.prog 41 #[.slice (some ⟨g, 0, none⟩) 1 1] (w.alloc (.cells #[.slice A m c] 23)) fun e w' =>
      e = .returned (.int .u32 (Crc.crc l : Nat)) ∧ w.alloc (.cells #[.slice A m c] 23) = w' := by
  subst hg
  refine (sum_any _ 1 1 [l] (w.heap.size + 1) _ (Rs.one h hm hc _) (by decide)).mono ?_
  rintro e w1 ⟨rfl, rfl⟩
  simp

set_option maxRecDepth 100000 in
set_option maxHeartbeats 1000000 in
theorem awake2_any (w : World) : Calls Try.prog 43 #[] w fun e w' => e = .returned (.bool true) ∧ Below w.heap.size w w' := by
  have kc := fun (w : World) (C : Array Value) (n c : Nat) => Lib.run_convert_bytes_const (P := Try.prog) w 23 5 C n c Try.underlying23 Try.underlying5
  go_enter Try.func43, Try.ntmps43
  go_wp2_with fail
  have hA := Bs.of_new w exA #[.int .u8 97] 5 (1, 2) rfl
  refine (seal_one _ 1 1 exA _ _ (by simp) hA (by decide) (by decide) (by decide)).mono ?_
  rintro e w1 ⟨A1, c1, rfl, hc1, hm1, hown1, hb1, hz1⟩
  have hB1 : Below w.heap.size w w1 := ((Below.refl _ _).alloc (Nat.le_refl _) _).trans (hb1.mono (by omega))
  obtain ⟨_, _, hv, _, _, hbs1, _, _⟩ := hown1.form
  injection hv with hv1 hv2 hv3
  subst hv1
  rw [← hv2] at hbs1
  have e9 : exA.length + 8 = 9 := rfl
  rw [e9] at hc1 hbs1
  rw [e9]
  clear hA hb1 hv2 hv3 hown1 e9
  go_wp2_with fail
  refine (open_yes A1 9 c1 (Crc.seal_ exA) w1.heap.size w1 hbs1 (Nat.le_refl _) hc1 hm1 (by rw [exA_size]; decide) exA_size).mono ?_
  rintro e w2 ⟨v2, rfl, hown2, hb2⟩
  rw [exA_body] at hown2
  obtain ⟨A2, c2, rfl, hc2, hm2, hbs2, _, _⟩ := hown2.form
  have hB2 := hB1.trans (hb2.mono (by omega))
  have hz2 := hb2.size
  have hS := hbs1.below hb2
  rw [exA_seal] at hS
  clear hbs1 hown2 hb2 hB1
  have hl2 : exA.length = 1 := rfl
  rw [hl2] at hc2 hbs2
  rw [hl2]
  clear hl2
  obtain ⟨p, rfl, hpb, c0⟩ := hS.at_ (k := 0) (by decide)
  obtain ⟨p', hp, _, c5⟩ := hS.at_ (k := 5) (by decide)
  injection hp with hp; subst hp
  obtain ⟨p', hp, _, c8⟩ := hS.at_ (k := 8) (by decide)
  injection hp with hp; subst hp
  replace c0 : w2.cell? (p.add 0) = some (.int .u8 1) := c0
  replace c5 : w2.cell? (p.add 5) = some (.int .u8 99) := c5
  replace c8 : w2.cell? (p.add 8) = some (.int .u8 193) := c8
  simp only [Addr.add] at c0 c5 c8
  simp at c0 c5 c8
  have hpb2 : p.block < w2.heap.size := by omega
  clear hS
  go_wp2_with fail
  refine (sum_one _ 9 9 exN _ _ (by simp) (Bs.of_new w2 exN #[.int .u8 49, .int .u8 50, .int .u8 51, .int .u8 52, .int .u8 53, .int .u8 54, .int .u8 55, .int .u8 56, .int .u8 57] 5 (9, 10) rfl) (by decide) (by decide) (by decide)).mono ?_
  rintro e w3 ⟨rfl, rfl⟩
  rw [exN_crc]
  have d0 := (World.cell?_alloc_lt (w2.alloc (.cells #[.int .u8 49, .int .u8 50, .int .u8 51, .int .u8 52, .int .u8 53, .int .u8 54, .int .u8 55, .int .u8 56, .int .u8 57] 5 (9, 10))) (.cells #[.slice (some ⟨w2.heap.size, 0, none⟩) 9 9] 23) p (by simp; omega)).trans ((World.cell?_alloc_lt w2 _ p hpb2).trans c0)
  have d5 := (World.cell?_alloc_lt (w2.alloc (.cells #[.int .u8 49, .int .u8 50, .int .u8 51, .int .u8 52, .int .u8 53, .int .u8 54, .int .u8 55, .int .u8 56, .int .u8 57] 5 (9, 10))) (.cells #[.slice (some ⟨w2.heap.size, 0, none⟩) 9 9] 23) ⟨p.block, p.off + 5, none⟩ (by simp; omega)).trans ((World.cell?_alloc_lt w2 _ ⟨p.block, p.off + 5, none⟩ hpb2).trans c5)
  have d8 := (World.cell?_alloc_lt (w2.alloc (.cells #[.int .u8 49, .int .u8 50, .int .u8 51, .int .u8 52, .int .u8 53, .int .u8 54, .int .u8 55, .int .u8 56, .int .u8 57] 5 (9, 10))) (.cells #[.slice (some ⟨w2.heap.size, 0, none⟩) 9 9] 23) ⟨p.block, p.off + 8, none⟩ (by simp; omega)).trans ((World.cell?_alloc_lt w2 _ ⟨p.block, p.off + 8, none⟩ hpb2).trans c8)
  have hbs3 := (hbs2.alloc (Nat.le_refl _) (.cells #[.int .u8 49, .int .u8 50, .int .u8 51, .int .u8 52, .int .u8 53, .int .u8 54, .int .u8 55, .int .u8 56, .int .u8 57] 5 (9, 10))).alloc (by simp) (.cells #[.slice (some ⟨w2.heap.size, 0, none⟩) 9 9] 23)
  have hB3 := (hB2.alloc (by omega) (.cells #[.int .u8 49, .int .u8 50, .int .u8 51, .int .u8 52, .int .u8 53, .int .u8 54, .int .u8 55, .int .u8 56, .int .u8 57] 5 (9, 10))).alloc (by simp; omega) (.cells #[.slice (some ⟨w2.heap.size, 0, none⟩) 9 9] 23)
  clear c0 c5 c8 hbs2 hB2 kc
  generalize (w2.alloc (.cells #[.int .u8 49, .int .u8 50, .int .u8 51, .int .u8 52, .int .u8 53, .int .u8 54, .int .u8 55, .int .u8 56, .int .u8 57] 5 (9, 10))).alloc (.cells #[.slice (some ⟨w2.heap.size, 0, none⟩) 9 9] 23) = w3 at *
  have hstr := hbs3.str (P := Try.prog) (src := 23) (dst := 9) (e := 5) Try.underlying23 Try.underlying5 Try.underlying9 c2
  go_wp2_with fail
  refine (sum_any none 0 0 [] 0 _ Rs.nil_ (by decide)).mono ?_
  rintro e w4 ⟨rfl, rfl⟩
  rw [List.flatten_nil, ex0_crc]
  go_wp2_with fail
  go_ret
  exact ⟨rfl, hB3⟩
end Go.Proofs.Ythkkjefcdedlfaa
