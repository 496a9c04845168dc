/-
  DiskMany: what the calls behind the loop come to.
-/
import Derived.Test.YtcepjabbnejgeaaDkZ
import Derived.Test.YtcepjabbnejgeaaDkU
namespace Go.Proofs.Ytcepjabbnejgeaa
open Go.RowKit Go.Lib Go.Sort Go.Maps
set_option linter.unusedVariables false
set_option linter.unusedSimpArgs false

def cntP (p : PD) (s : ByteArray) : Nat := ((p.F.map Fl.key).filter fun k => Lib.hasPrefix k s.data.toList).length
theorem Aw.names {w W : World} {d : Nat} {p : PD} {X : List (Value × List UInt8)} (h : Aw w W d p X) (s : ByteArray) :
    Calls Try.prog 21 #[.pointer (some ⟨d, 0, none⟩), .string s] W fun e w' => ∃ A c, e = .returned (.slice A (cntP p s) c) ∧ Below W.heap.size W w' := by
  obtain ⟨D, h1, hp, h3, h4⟩ := h
  refine (names_any w.heap.size d D s W h1).mono fun e w' hh => ?_
  obtain ⟨A, c, he, _, _, _, hb⟩ := hh
  refine ⟨A, c, ?_, hb⟩
  rw [he, ← hp]
  have : (namesD D s).length = cntP (pd D) s := by
    unfold namesD cntP pd filesD
    rw [List.map_map]
    rfl
  rw [this]
def mz : ByteArray := ⟨#[122]⟩
def mf : ByteArray := ⟨#[102, 97, 97]⟩
def mp1 : PD := ((manyP 128).append mf [121]).2
def mp2 : PD := (mp1.remove mf).2
def mp3 : PD := (mp2.append mz []).2
theorem mc0 : cntP (manyP 128) ⟨#[]⟩ = 128 ∧ cntP (manyP 128) ⟨#[102, 98]⟩ = 26 := by decide +kernel
theorem mc1 : (manyP 128).append mf [121] = (0, mp1) ∧ mp1.append mz [] = (5, mp1) ∧ mp1.remove mf = (0, mp2) ∧ mp2.append mz [] = (0, mp3) := by decide +kernel
theorem mc2 : ∀ k, k < 128 → cntP (manyP k) ⟨#[102]⟩ = k := by decide +kernel
end Go.Proofs.Ytcepjabbnejgeaa
