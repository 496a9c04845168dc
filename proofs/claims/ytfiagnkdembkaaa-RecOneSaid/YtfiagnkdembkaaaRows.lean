/-
  No cell of these rows narrows 'for every input' (looked for: loops, veiled, ifaces, maps, wideKeys, modest, calm, conditions, laid).
  DERIVED. THE GIVEN ROWS OF THIS SEAT. 11 by the template 'for every input the law returns true; each argument reads behind the call as it read before'; 0 by the template 'total and deterministic' (their statements: YtfiagnkdembkaaaTotals.lean).
  GIVEN WITH THE SEED: the statements are not yours to turn. If you find one false, say at which input.
  Laid BY PROGRAM, IN A SANDBOX (cutbox-rows.mjs): the forced cells as the released guide's own fill.sh prints them over the translation 54f7b0c184823ee6… (all of the seat's roots in one cut). By AI agents, Wed Nov 11 2026. No macro, syntax, notation, axiom, sorry.
-/
import Derived.Test.YtfiagnkdembkaaaChecked
import GoSem.Claim
import GoSem.ClaimJoined
import GoSem.ClaimMapViews
import Derived.JoinedTies
import Derived.KernelRfl
namespace Go.Proofs.Ytfiagnkdembkaaa
/- THE CELL 'sum', in the pinned program and in every row, IS THE sha256 OF THE DUMP (.gsa) THAT YtfiagnkdembkaaaProg.lean LOADS. Nothing in Lean hashes anything: it is a label: what it is worth is what the hold of that sum in a sandbox is worth. -/
noncomputable def Try.pinned : Pinned := { name := "ytfiagnkdembkaaa", sum := "54f7b0c184823ee659328ba8ac269ad503ee84b20cbe0d60f7eb64d7b9f7e6b9", checked := Try.checked }
namespace Rows
def none {H : Type} : Left H := { results := [], args := [] }

/-- 'towpathlaw01.WireTells': WHATEVER THE INPUT: true; the input reads as it did. -/
def wireTellsSpec : ChangeSpec := { name := "wireTells", fn := fun _ => fun
  | [d] => { results := [.lit (.bool true)], args := [d] }
  | _ => none }
def wireTellsRow : OpenClaim := { program := "ytfiagnkdembkaaa", sum := "54f7b0c184823ee659328ba8ac269ad503ee84b20cbe0d60f7eb64d7b9f7e6b9", func := "towpath/towpathlaw01.WireTells", spec := "wireTells", unfollowed := true, recurses := true, apart := false }
def WireTellsSaid : Prop := wireTellsRow.holds Try.pinned (OpenSpec.ofChange wireTellsSpec)

/-- ITS FALSE NEIGHBOUR: 'it returns false'. Refute it at one input. -/
def wireTellsWrong : ChangeSpec := { name := "wireTells", fn := fun _ => fun
  | [d] => { results := [.lit (.bool false)], args := [d] }
  | _ => none }
def WireTellsWrongFalsely : Prop := wireTellsRow.holds Try.pinned (OpenSpec.ofChange wireTellsWrong)

/-- 'towpathlaw01.WireBack': WHATEVER THE INPUT: true; the input reads as it did. -/
def wireBackSpec : ChangeSpec := { name := "wireBack", fn := fun _ => fun
  | [d] => { results := [.lit (.bool true)], args := [d] }
  | _ => none }
def wireBackRow : OpenClaim := { program := "ytfiagnkdembkaaa", sum := "54f7b0c184823ee659328ba8ac269ad503ee84b20cbe0d60f7eb64d7b9f7e6b9", func := "towpath/towpathlaw01.WireBack", spec := "wireBack", unfollowed := true, recurses := true, apart := false }
def WireBackSaid : Prop := wireBackRow.holds Try.pinned (OpenSpec.ofChange wireBackSpec)

/-- ITS FALSE NEIGHBOUR: 'it returns false'. Refute it at one input. -/
def wireBackWrong : ChangeSpec := { name := "wireBack", fn := fun _ => fun
  | [d] => { results := [.lit (.bool false)], args := [d] }
  | _ => none }
def WireBackWrongFalsely : Prop := wireBackRow.holds Try.pinned (OpenSpec.ofChange wireBackWrong)

/-- 'towpathlaw01.WireReads': WHATEVER THE INPUT: true; the input reads as it did. -/
def wireReadsSpec : ChangeSpec := { name := "wireReads", fn := fun _ => fun
  | [d1, d2] => { results := [.lit (.bool true)], args := [d1, d2] }
  | _ => none }
def wireReadsRow : OpenClaim := { program := "ytfiagnkdembkaaa", sum := "54f7b0c184823ee659328ba8ac269ad503ee84b20cbe0d60f7eb64d7b9f7e6b9", func := "towpath/towpathlaw01.WireReads", spec := "wireReads", unfollowed := true, recurses := true, apart := false }
def WireReadsSaid : Prop := wireReadsRow.holds Try.pinned (OpenSpec.ofChange wireReadsSpec)

/-- ITS FALSE NEIGHBOUR: 'it returns false'. Refute it at one input. -/
def wireReadsWrong : ChangeSpec := { name := "wireReads", fn := fun _ => fun
  | [d1, d2] => { results := [.lit (.bool false)], args := [d1, d2] }
  | _ => none }
def WireReadsWrongFalsely : Prop := wireReadsRow.holds Try.pinned (OpenSpec.ofChange wireReadsWrong)

/-- 'towpathlaw03.RecValid': WHATEVER THE INPUT: true; the input reads as it did. -/
def recValidSpec : ChangeSpec := { name := "recValid", fn := fun _ => fun
  | [d] => { results := [.lit (.bool true)], args := [d] }
  | _ => none }
def recValidRow : OpenClaim := { program := "ytfiagnkdembkaaa", sum := "54f7b0c184823ee659328ba8ac269ad503ee84b20cbe0d60f7eb64d7b9f7e6b9", func := "towpath/towpathlaw03.RecValid", spec := "recValid", unfollowed := true, recurses := true, apart := false }
def RecValidSaid : Prop := recValidRow.holds Try.pinned (OpenSpec.ofChange recValidSpec)

/-- ITS FALSE NEIGHBOUR: 'it returns false'. Refute it at one input. -/
def recValidWrong : ChangeSpec := { name := "recValid", fn := fun _ => fun
  | [d] => { results := [.lit (.bool false)], args := [d] }
  | _ => none }
def RecValidWrongFalsely : Prop := recValidRow.holds Try.pinned (OpenSpec.ofChange recValidWrong)

/-- 'towpathlaw03.RecMarks': WHATEVER THE INPUT: true; the input reads as it did. -/
def recMarksSpec : ChangeSpec := { name := "recMarks", fn := fun _ => fun
  | [d1, d2, d3, d4] => { results := [.lit (.bool true)], args := [d1, d2, d3, d4] }
  | _ => none }
def recMarksRow : OpenClaim := { program := "ytfiagnkdembkaaa", sum := "54f7b0c184823ee659328ba8ac269ad503ee84b20cbe0d60f7eb64d7b9f7e6b9", func := "towpath/towpathlaw03.RecMarks", spec := "recMarks", unfollowed := true, recurses := true, apart := false }
def RecMarksSaid : Prop := recMarksRow.holds Try.pinned (OpenSpec.ofChange recMarksSpec)

/-- ITS FALSE NEIGHBOUR: 'it returns false'. Refute it at one input. -/
def recMarksWrong : ChangeSpec := { name := "recMarks", fn := fun _ => fun
  | [d1, d2, d3, d4] => { results := [.lit (.bool false)], args := [d1, d2, d3, d4] }
  | _ => none }
def RecMarksWrongFalsely : Prop := recMarksRow.holds Try.pinned (OpenSpec.ofChange recMarksWrong)

/-- 'towpathlaw03.RecBytes': WHATEVER THE INPUT: true; the input reads as it did. -/
def recBytesSpec : ChangeSpec := { name := "recBytes", fn := fun _ => fun
  | [d] => { results := [.lit (.bool true)], args := [d] }
  | _ => none }
def recBytesRow : OpenClaim := { program := "ytfiagnkdembkaaa", sum := "54f7b0c184823ee659328ba8ac269ad503ee84b20cbe0d60f7eb64d7b9f7e6b9", func := "towpath/towpathlaw03.RecBytes", spec := "recBytes", unfollowed := true, recurses := true, apart := false }
def RecBytesSaid : Prop := recBytesRow.holds Try.pinned (OpenSpec.ofChange recBytesSpec)

/-- ITS FALSE NEIGHBOUR: 'it returns false'. Refute it at one input. -/
def recBytesWrong : ChangeSpec := { name := "recBytes", fn := fun _ => fun
  | [d] => { results := [.lit (.bool false)], args := [d] }
  | _ => none }
def RecBytesWrongFalsely : Prop := recBytesRow.holds Try.pinned (OpenSpec.ofChange recBytesWrong)

/-- 'towpathlaw03.RecReads': WHATEVER THE INPUT: true; the input reads as it did. -/
def recReadsSpec : ChangeSpec := { name := "recReads", fn := fun _ => fun
  | [d1, d2, d3, d4] => { results := [.lit (.bool true)], args := [d1, d2, d3, d4] }
  | _ => none }
def recReadsRow : OpenClaim := { program := "ytfiagnkdembkaaa", sum := "54f7b0c184823ee659328ba8ac269ad503ee84b20cbe0d60f7eb64d7b9f7e6b9", func := "towpath/towpathlaw03.RecReads", spec := "recReads", unfollowed := true, recurses := true, apart := false }
def RecReadsSaid : Prop := recReadsRow.holds Try.pinned (OpenSpec.ofChange recReadsSpec)

/-- ITS FALSE NEIGHBOUR: 'it returns false'. Refute it at one input. -/
def recReadsWrong : ChangeSpec := { name := "recReads", fn := fun _ => fun
  | [d1, d2, d3, d4] => { results := [.lit (.bool false)], args := [d1, d2, d3, d4] }
  | _ => none }
def RecReadsWrongFalsely : Prop := recReadsRow.holds Try.pinned (OpenSpec.ofChange recReadsWrong)

/-- 'towpathlaw03.RecOne': WHATEVER THE INPUT: true; the input reads as it did. -/
def recOneSpec : ChangeSpec := { name := "recOne", fn := fun _ => fun
  | [d1, d2] => { results := [.lit (.bool true)], args := [d1, d2] }
  | _ => none }
def recOneRow : OpenClaim := { program := "ytfiagnkdembkaaa", sum := "54f7b0c184823ee659328ba8ac269ad503ee84b20cbe0d60f7eb64d7b9f7e6b9", func := "towpath/towpathlaw03.RecOne", spec := "recOne", unfollowed := true, recurses := true, apart := false }
def RecOneSaid : Prop := recOneRow.holds Try.pinned (OpenSpec.ofChange recOneSpec)

/-- ITS FALSE NEIGHBOUR: 'it returns false'. Refute it at one input. -/
def recOneWrong : ChangeSpec := { name := "recOne", fn := fun _ => fun
  | [d1, d2] => { results := [.lit (.bool false)], args := [d1, d2] }
  | _ => none }
def RecOneWrongFalsely : Prop := recOneRow.holds Try.pinned (OpenSpec.ofChange recOneWrong)

/-- 'towpathlaw03.RecSplits': WHATEVER THE INPUT: true; the input reads as it did. -/
def recSplitsSpec : ChangeSpec := { name := "recSplits", fn := fun _ => fun
  | [d1, d2] => { results := [.lit (.bool true)], args := [d1, d2] }
  | _ => none }
def recSplitsRow : OpenClaim := { program := "ytfiagnkdembkaaa", sum := "54f7b0c184823ee659328ba8ac269ad503ee84b20cbe0d60f7eb64d7b9f7e6b9", func := "towpath/towpathlaw03.RecSplits", spec := "recSplits", unfollowed := true, recurses := true, apart := false }
def RecSplitsSaid : Prop := recSplitsRow.holds Try.pinned (OpenSpec.ofChange recSplitsSpec)

/-- ITS FALSE NEIGHBOUR: 'it returns false'. Refute it at one input. -/
def recSplitsWrong : ChangeSpec := { name := "recSplits", fn := fun _ => fun
  | [d1, d2] => { results := [.lit (.bool false)], args := [d1, d2] }
  | _ => none }
def RecSplitsWrongFalsely : Prop := recSplitsRow.holds Try.pinned (OpenSpec.ofChange recSplitsWrong)

/-- 'towpathlaw03.RecMerges': WHATEVER THE INPUT: true; the input reads as it did. -/
def recMergesSpec : ChangeSpec := { name := "recMerges", fn := fun _ => fun
  | [d1, d2] => { results := [.lit (.bool true)], args := [d1, d2] }
  | _ => none }
def recMergesRow : OpenClaim := { program := "ytfiagnkdembkaaa", sum := "54f7b0c184823ee659328ba8ac269ad503ee84b20cbe0d60f7eb64d7b9f7e6b9", func := "towpath/towpathlaw03.RecMerges", spec := "recMerges", unfollowed := true, recurses := true, apart := false }
def RecMergesSaid : Prop := recMergesRow.holds Try.pinned (OpenSpec.ofChange recMergesSpec)

/-- ITS FALSE NEIGHBOUR: 'it returns false'. Refute it at one input. -/
def recMergesWrong : ChangeSpec := { name := "recMerges", fn := fun _ => fun
  | [d1, d2] => { results := [.lit (.bool false)], args := [d1, d2] }
  | _ => none }
def RecMergesWrongFalsely : Prop := recMergesRow.holds Try.pinned (OpenSpec.ofChange recMergesWrong)

/-- 'towpathlaw03.RecFroms': WHATEVER THE INPUT: true; the input reads as it did. -/
def recFromsSpec : ChangeSpec := { name := "recFroms", fn := fun _ => fun
  | [d1, d2] => { results := [.lit (.bool true)], args := [d1, d2] }
  | _ => none }
def recFromsRow : OpenClaim := { program := "ytfiagnkdembkaaa", sum := "54f7b0c184823ee659328ba8ac269ad503ee84b20cbe0d60f7eb64d7b9f7e6b9", func := "towpath/towpathlaw03.RecFroms", spec := "recFroms", unfollowed := true, recurses := true, apart := false }
def RecFromsSaid : Prop := recFromsRow.holds Try.pinned (OpenSpec.ofChange recFromsSpec)

/-- ITS FALSE NEIGHBOUR: 'it returns false'. Refute it at one input. -/
def recFromsWrong : ChangeSpec := { name := "recFroms", fn := fun _ => fun
  | [d1, d2] => { results := [.lit (.bool false)], args := [d1, d2] }
  | _ => none }
def RecFromsWrongFalsely : Prop := recFromsRow.holds Try.pinned (OpenSpec.ofChange recFromsWrong)

/- THE SECOND FORM. 'bulk': how many values and letters a reading holds, each counted each time it is reached (what is shared counts as often as it is met; a slice's spare places count too). A statement '..UptoSaid' is the law's where the arguments, and the package variables that the reading takes, are together of bulk at most 1048576: NARROWER than '..Said'. Prove '..Said' where nothing that the law and all that it calls make is longer than what came in: it says more and counts as full. Else prove '..UptoSaid'. A law counts once. -/
mutual
def uptoBulk {H : Type} : DataW H → Nat
  | .lit (.string bytes) => bytes.length + 1
  | .lit _ => 1
  | .nil => 1
  | .ptr d => uptoBulk d + 1
  | .slice elems spare => uptoBulkAll elems + uptoBulkAll spare + 1
  | .agg parts => uptoBulkAll parts + 1
  | .iface _ d => uptoBulk d + 1
  | .map entries => uptoBulkEntries entries + 1
  | .held _ => 1
def uptoBulkAll {H : Type} : List (DataW H) → Nat
  | [] => 0
  | d :: r => uptoBulk d + uptoBulkAll r
def uptoBulkEntries {H : Type} : List (Lit × DataW H) → Nat
  | [] => 0
  | x :: r => uptoBulkEntry x + uptoBulkEntries r
def uptoBulkEntry {H : Type} : Lit × DataW H → Nat
  | (.string bytes, d) => bytes.length + uptoBulk d + 1
  | (_, d) => uptoBulk d + 1
 end
def uptoSmall : (H : Type) → List (DataW H) → Bool := fun _ ds => decide (uptoBulkAll ds ≤ 1048576)
def OpenSpec.upto (s : _root_.Go.ChangeSpec) : _root_.Go.OpenSpec := { _root_.Go.OpenSpec.ofChange s with cond := some uptoSmall }

/-- 'towpathlaw01.WireTells', WHERE WHAT IT READS IS OF BULK AT MOST 1048576: true; the input reads as it did. -/
def wireTellsUptoRow : OpenClaim := { program := "ytfiagnkdembkaaa", sum := "54f7b0c184823ee659328ba8ac269ad503ee84b20cbe0d60f7eb64d7b9f7e6b9", func := "towpath/towpathlaw01.WireTells", spec := "wireTells", unfollowed := true, recurses := true, apart := false, narrowed := true }
def WireTellsUptoSaid : Prop := wireTellsUptoRow.holds Try.pinned (OpenSpec.upto wireTellsSpec)

/-- 'towpathlaw01.WireBack', WHERE WHAT IT READS IS OF BULK AT MOST 1048576: true; the input reads as it did. -/
def wireBackUptoRow : OpenClaim := { program := "ytfiagnkdembkaaa", sum := "54f7b0c184823ee659328ba8ac269ad503ee84b20cbe0d60f7eb64d7b9f7e6b9", func := "towpath/towpathlaw01.WireBack", spec := "wireBack", unfollowed := true, recurses := true, apart := false, narrowed := true }
def WireBackUptoSaid : Prop := wireBackUptoRow.holds Try.pinned (OpenSpec.upto wireBackSpec)

/-- 'towpathlaw01.WireReads', WHERE WHAT IT READS IS OF BULK AT MOST 1048576: true; the input reads as it did. -/
def wireReadsUptoRow : OpenClaim := { program := "ytfiagnkdembkaaa", sum := "54f7b0c184823ee659328ba8ac269ad503ee84b20cbe0d60f7eb64d7b9f7e6b9", func := "towpath/towpathlaw01.WireReads", spec := "wireReads", unfollowed := true, recurses := true, apart := false, narrowed := true }
def WireReadsUptoSaid : Prop := wireReadsUptoRow.holds Try.pinned (OpenSpec.upto wireReadsSpec)

/-- 'towpathlaw03.RecValid', WHERE WHAT IT READS IS OF BULK AT MOST 1048576: true; the input reads as it did. -/
def recValidUptoRow : OpenClaim := { program := "ytfiagnkdembkaaa", sum := "54f7b0c184823ee659328ba8ac269ad503ee84b20cbe0d60f7eb64d7b9f7e6b9", func := "towpath/towpathlaw03.RecValid", spec := "recValid", unfollowed := true, recurses := true, apart := false, narrowed := true }
def RecValidUptoSaid : Prop := recValidUptoRow.holds Try.pinned (OpenSpec.upto recValidSpec)

/-- 'towpathlaw03.RecMarks', WHERE WHAT IT READS IS OF BULK AT MOST 1048576: true; the input reads as it did. -/
def recMarksUptoRow : OpenClaim := { program := "ytfiagnkdembkaaa", sum := "54f7b0c184823ee659328ba8ac269ad503ee84b20cbe0d60f7eb64d7b9f7e6b9", func := "towpath/towpathlaw03.RecMarks", spec := "recMarks", unfollowed := true, recurses := true, apart := false, narrowed := true }
def RecMarksUptoSaid : Prop := recMarksUptoRow.holds Try.pinned (OpenSpec.upto recMarksSpec)

/-- 'towpathlaw03.RecBytes', WHERE WHAT IT READS IS OF BULK AT MOST 1048576: true; the input reads as it did. -/
def recBytesUptoRow : OpenClaim := { program := "ytfiagnkdembkaaa", sum := "54f7b0c184823ee659328ba8ac269ad503ee84b20cbe0d60f7eb64d7b9f7e6b9", func := "towpath/towpathlaw03.RecBytes", spec := "recBytes", unfollowed := true, recurses := true, apart := false, narrowed := true }
def RecBytesUptoSaid : Prop := recBytesUptoRow.holds Try.pinned (OpenSpec.upto recBytesSpec)

/-- 'towpathlaw03.RecReads', WHERE WHAT IT READS IS OF BULK AT MOST 1048576: true; the input reads as it did. -/
def recReadsUptoRow : OpenClaim := { program := "ytfiagnkdembkaaa", sum := "54f7b0c184823ee659328ba8ac269ad503ee84b20cbe0d60f7eb64d7b9f7e6b9", func := "towpath/towpathlaw03.RecReads", spec := "recReads", unfollowed := true, recurses := true, apart := false, narrowed := true }
def RecReadsUptoSaid : Prop := recReadsUptoRow.holds Try.pinned (OpenSpec.upto recReadsSpec)

/-- 'towpathlaw03.RecOne', WHERE WHAT IT READS IS OF BULK AT MOST 1048576: true; the input reads as it did. -/
def recOneUptoRow : OpenClaim := { program := "ytfiagnkdembkaaa", sum := "54f7b0c184823ee659328ba8ac269ad503ee84b20cbe0d60f7eb64d7b9f7e6b9", func := "towpath/towpathlaw03.RecOne", spec := "recOne", unfollowed := true, recurses := true, apart := false, narrowed := true }
def RecOneUptoSaid : Prop := recOneUptoRow.holds Try.pinned (OpenSpec.upto recOneSpec)

/-- 'towpathlaw03.RecSplits', WHERE WHAT IT READS IS OF BULK AT MOST 1048576: true; the input reads as it did. -/
def recSplitsUptoRow : OpenClaim := { program := "ytfiagnkdembkaaa", sum := "54f7b0c184823ee659328ba8ac269ad503ee84b20cbe0d60f7eb64d7b9f7e6b9", func := "towpath/towpathlaw03.RecSplits", spec := "recSplits", unfollowed := true, recurses := true, apart := false, narrowed := true }
def RecSplitsUptoSaid : Prop := recSplitsUptoRow.holds Try.pinned (OpenSpec.upto recSplitsSpec)

/-- 'towpathlaw03.RecMerges', WHERE WHAT IT READS IS OF BULK AT MOST 1048576: true; the input reads as it did. -/
def recMergesUptoRow : OpenClaim := { program := "ytfiagnkdembkaaa", sum := "54f7b0c184823ee659328ba8ac269ad503ee84b20cbe0d60f7eb64d7b9f7e6b9", func := "towpath/towpathlaw03.RecMerges", spec := "recMerges", unfollowed := true, recurses := true, apart := false, narrowed := true }
def RecMergesUptoSaid : Prop := recMergesUptoRow.holds Try.pinned (OpenSpec.upto recMergesSpec)

/-- 'towpathlaw03.RecFroms', WHERE WHAT IT READS IS OF BULK AT MOST 1048576: true; the input reads as it did. -/
def recFromsUptoRow : OpenClaim := { program := "ytfiagnkdembkaaa", sum := "54f7b0c184823ee659328ba8ac269ad503ee84b20cbe0d60f7eb64d7b9f7e6b9", func := "towpath/towpathlaw03.RecFroms", spec := "recFroms", unfollowed := true, recurses := true, apart := false, narrowed := true }
def RecFromsUptoSaid : Prop := recFromsUptoRow.holds Try.pinned (OpenSpec.upto recFromsSpec)

end Rows
end Go.Proofs.Ytfiagnkdembkaaa
