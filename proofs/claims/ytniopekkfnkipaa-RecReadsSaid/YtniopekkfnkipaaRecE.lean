/-
  What rec.Encode does.
-/
import Derived.Test.YtniopekkfnkipaaRecR
import Derived.Test.YtniopekkfnkipaaRecFi
import Derived.Test.YtniopekkfnkipaaRows2
namespace Go.Proofs.Ytniopekkfnkipaa
open Go.RowKit
set_option linter.unusedVariables false
set_option linter.unusedSimpArgs false

def prevKey (L : List Rec) : Nat → ByteArray
  | 0 => ⟨#[]⟩
  | k + 1 => (L.getD k default).key
def rowsS (L : List Rec) (time : Int) (k : Nat) : List (List UInt8) := (List.range k).map fun i => recS (L.getD i default) time (prevKey L i)
theorem rowsS_succ (L : List Rec) (time : Int) (k : Nat) : rowsS L time (k + 1) = rowsS L time k ++ [recS (L.getD k default) time (prevKey L k)] := by
  simp [rowsS, List.range_succ]
def headOf (b : Bat) : List UInt8 := headS (markB b) b.base.toNat b.pid.toNat b.epoch.toNat b.seq.toNat b.kind.toNat b.time.toNat
/-- the bytes of a batch that may be -/
def encB (b : Bat) : List UInt8 := if markB b then headOf b else headOf b ++ Wn.enc b.L.length ++ (rowsS b.L b.time b.L.length).flatten

theorem recS_len (r : Rec) (time : Int) (last : ByteArray) (hk : r.key.size ≤ 1024) (hv : r.value.size ≤ 1024) : (recS r time last).length ≤ 4000 := by
  unfold recS
  have l1 := (Wn.enc_len (Wn.zig (r.time - time))).2
  have l2 : (encF_ r.gone).length ≤ 1 := by unfold encF_; split <;> simp
  have l3 := (Wn.enc_len (comm last.data.toList r.key.data.toList)).2
  have hxs : (r.key.extract (comm last.data.toList r.key.data.toList) r.key.size).size ≤ 1024 := by rw [ByteArray.size_extract]; omega
  have l4 := encT_len (r.key.extract (comm last.data.toList r.key.data.toList) r.key.size)
  have l5 := encT_len r.value
  have l6 : (if r.gone = true then [] else encT r.value : List UInt8).length ≤ (encT r.value).length := by split <;> simp
  simp only [List.length_append]
  omega
theorem headS_len (mk : Bool) (a b c d e f : Nat) : (headS mk a b c d e f).length ≤ 80 := by
  unfold headS
  have l1 := (Wn.enc_len 1).2
  have l2 := (Wn.enc_len e).2
  have l3 := (Wn.enc_len a).2
  have l4 := (Wn.enc_len b).2
  have l5 := (Wn.enc_len c).2
  have l6 := (Wn.enc_len d).2
  have l7 := (Wn.enc_len f).2
  have l8 : (if b = 0 then [] else Wn.enc c ++ (if mk = true then [] else Wn.enc d) : List UInt8).length ≤ 20 := by
    split
    · simp
    · split <;> simp only [List.length_append, List.length_nil] <;> omega
  simp only [List.length_append]
  omega
end Go.Proofs.Ytniopekkfnkipaa
