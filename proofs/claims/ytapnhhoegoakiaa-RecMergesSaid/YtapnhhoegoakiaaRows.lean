/-
  No cell of these rows narrows 'for every input' (looked for: loops, veiled, ifaces, maps, wideKeys, modest, calm, conditions, laid).
  DERIVED. THE GIVEN ROWS OF THIS SEAT. 6 by the template 'for every input the law returns true; each argument reads behind the call as it read before'; 0 by the template 'total and deterministic' (their statements: YtapnhhoegoakiaaTotals.lean).
  GIVEN WITH THE SEED: the statements are not yours to turn. If you find one false, say at which input.
  Laid BY PROGRAM, IN A SANDBOX (cutbox-rows.mjs): the forced cells as the released guide's own fill.sh prints them over the translation 366bd214938e0e7d… (all of the seat's roots in one cut). By AI agents, Wed Nov 11 2026. No macro, syntax, notation, axiom, sorry.
-/
import Derived.Test.YtapnhhoegoakiaaChecked
import GoSem.Claim
import GoSem.ClaimJoined
import GoSem.ClaimMapViews
import Derived.JoinedTies
import Derived.KernelRfl
namespace Go.Proofs.Ytapnhhoegoakiaa
/- THE CELL 'sum', in the pinned program and in every row, IS THE sha256 OF THE DUMP (.gsa) THAT YtapnhhoegoakiaaProg.lean LOADS. Nothing in Lean hashes anything: it is a label: what it is worth is what the hold of that sum in a sandbox is worth. -/
noncomputable def Try.pinned : Pinned := { name := "ytapnhhoegoakiaa", sum := "366bd214938e0e7d31f2f7ebb3dc4f945397ccfddcc3c3e229f91f2f01e174b3", checked := Try.checked }
namespace Rows
def none {H : Type} : Left H := { results := [], args := [] }

/-- 'towpathlaw03.RecMerges': WHATEVER THE INPUT: true; the input reads as it did. -/
def recMergesSpec : ChangeSpec := { name := "recMerges", fn := fun _ => fun
  | [d1, d2] => { results := [.lit (.bool true)], args := [d1, d2] }
  | _ => none }
def recMergesRow : OpenClaim := { program := "ytapnhhoegoakiaa", sum := "366bd214938e0e7d31f2f7ebb3dc4f945397ccfddcc3c3e229f91f2f01e174b3", func := "towpath/towpathlaw03.RecMerges", spec := "recMerges", unfollowed := true, recurses := true, apart := false }
def RecMergesSaid : Prop := recMergesRow.holds Try.pinned (OpenSpec.ofChange recMergesSpec)

/-- ITS FALSE NEIGHBOUR: 'it returns false'. Refute it at one input. -/
def recMergesWrong : ChangeSpec := { name := "recMerges", fn := fun _ => fun
  | [d1, d2] => { results := [.lit (.bool false)], args := [d1, d2] }
  | _ => none }
def RecMergesWrongFalsely : Prop := recMergesRow.holds Try.pinned (OpenSpec.ofChange recMergesWrong)

/-- 'towpathlaw09.CompactCleans': WHATEVER THE INPUT: true; the input reads as it did. -/
def compactCleansSpec : ChangeSpec := { name := "compactCleans", fn := fun _ => fun
  | [d1, d2] => { results := [.lit (.bool true)], args := [d1, d2] }
  | _ => none }
def compactCleansRow : OpenClaim := { program := "ytapnhhoegoakiaa", sum := "366bd214938e0e7d31f2f7ebb3dc4f945397ccfddcc3c3e229f91f2f01e174b3", func := "towpath/towpathlaw09.CompactCleans", spec := "compactCleans", inPlace := ["slices.overlaps[towpath/rec.At]"], unfollowed := true, recurses := true, apart := false }
def CompactCleansSaid : Prop := compactCleansRow.holds Try.pinned (OpenSpec.ofChange compactCleansSpec)

/-- ITS FALSE NEIGHBOUR: 'it returns false'. Refute it at one input. -/
def compactCleansWrong : ChangeSpec := { name := "compactCleans", fn := fun _ => fun
  | [d1, d2] => { results := [.lit (.bool false)], args := [d1, d2] }
  | _ => none }
def CompactCleansWrongFalsely : Prop := compactCleansRow.holds Try.pinned (OpenSpec.ofChange compactCleansWrong)

/-- 'towpathlaw09.CompactAgain': WHATEVER THE INPUT: true; the input reads as it did. -/
def compactAgainSpec : ChangeSpec := { name := "compactAgain", fn := fun _ => fun
  | [d1, d2, d3] => { results := [.lit (.bool true)], args := [d1, d2, d3] }
  | _ => none }
def compactAgainRow : OpenClaim := { program := "ytapnhhoegoakiaa", sum := "366bd214938e0e7d31f2f7ebb3dc4f945397ccfddcc3c3e229f91f2f01e174b3", func := "towpath/towpathlaw09.CompactAgain", spec := "compactAgain", inPlace := ["slices.overlaps[towpath/rec.At]"], unfollowed := true, recurses := true, apart := false }
def CompactAgainSaid : Prop := compactAgainRow.holds Try.pinned (OpenSpec.ofChange compactAgainSpec)

/-- ITS FALSE NEIGHBOUR: 'it returns false'. Refute it at one input. -/
def compactAgainWrong : ChangeSpec := { name := "compactAgain", fn := fun _ => fun
  | [d1, d2, d3] => { results := [.lit (.bool false)], args := [d1, d2, d3] }
  | _ => none }
def CompactAgainWrongFalsely : Prop := compactAgainRow.holds Try.pinned (OpenSpec.ofChange compactAgainWrong)

/-- 'towpathlaw09.CompactStays': WHATEVER THE INPUT: true; the input reads as it did. -/
def compactStaysSpec : ChangeSpec := { name := "compactStays", fn := fun _ => fun
  | [d1, d2] => { results := [.lit (.bool true)], args := [d1, d2] }
  | _ => none }
def compactStaysRow : OpenClaim := { program := "ytapnhhoegoakiaa", sum := "366bd214938e0e7d31f2f7ebb3dc4f945397ccfddcc3c3e229f91f2f01e174b3", func := "towpath/towpathlaw09.CompactStays", spec := "compactStays", inPlace := ["slices.overlaps[towpath/rec.At]"], unfollowed := true, recurses := true, apart := false }
def CompactStaysSaid : Prop := compactStaysRow.holds Try.pinned (OpenSpec.ofChange compactStaysSpec)

/-- ITS FALSE NEIGHBOUR: 'it returns false'. Refute it at one input. -/
def compactStaysWrong : ChangeSpec := { name := "compactStays", fn := fun _ => fun
  | [d1, d2] => { results := [.lit (.bool false)], args := [d1, d2] }
  | _ => none }
def CompactStaysWrongFalsely : Prop := compactStaysRow.holds Try.pinned (OpenSpec.ofChange compactStaysWrong)

/-- 'towpathlaw09.CompactCuts': WHATEVER THE INPUT: true; the input reads as it did. -/
def compactCutsSpec : ChangeSpec := { name := "compactCuts", fn := fun _ => fun
  | [d1, d2] => { results := [.lit (.bool true)], args := [d1, d2] }
  | _ => none }
def compactCutsRow : OpenClaim := { program := "ytapnhhoegoakiaa", sum := "366bd214938e0e7d31f2f7ebb3dc4f945397ccfddcc3c3e229f91f2f01e174b3", func := "towpath/towpathlaw09.CompactCuts", spec := "compactCuts", inPlace := ["slices.overlaps[towpath/rec.At]"], unfollowed := true, recurses := true, apart := false }
def CompactCutsSaid : Prop := compactCutsRow.holds Try.pinned (OpenSpec.ofChange compactCutsSpec)

/-- ITS FALSE NEIGHBOUR: 'it returns false'. Refute it at one input. -/
def compactCutsWrong : ChangeSpec := { name := "compactCuts", fn := fun _ => fun
  | [d1, d2] => { results := [.lit (.bool false)], args := [d1, d2] }
  | _ => none }
def CompactCutsWrongFalsely : Prop := compactCutsRow.holds Try.pinned (OpenSpec.ofChange compactCutsWrong)

/-- 'towpathlaw09.CompactNil': WHATEVER THE INPUT: true; the input reads as it did. -/
def compactNilSpec : ChangeSpec := { name := "compactNil", fn := fun _ => fun
  | [d1, d2] => { results := [.lit (.bool true)], args := [d1, d2] }
  | _ => none }
def compactNilRow : OpenClaim := { program := "ytapnhhoegoakiaa", sum := "366bd214938e0e7d31f2f7ebb3dc4f945397ccfddcc3c3e229f91f2f01e174b3", func := "towpath/towpathlaw09.CompactNil", spec := "compactNil", inPlace := ["slices.overlaps[towpath/rec.At]"], unfollowed := true, recurses := true, apart := false }
def CompactNilSaid : Prop := compactNilRow.holds Try.pinned (OpenSpec.ofChange compactNilSpec)

/-- ITS FALSE NEIGHBOUR: 'it returns false'. Refute it at one input. -/
def compactNilWrong : ChangeSpec := { name := "compactNil", fn := fun _ => fun
  | [d1, d2] => { results := [.lit (.bool false)], args := [d1, d2] }
  | _ => none }
def CompactNilWrongFalsely : Prop := compactNilRow.holds Try.pinned (OpenSpec.ofChange compactNilWrong)

/- THE SECOND FORM. 'bulk': how many values and letters a reading holds, each counted each time it is reached (what is shared counts as often as it is met; a slice's spare places count too). A statement '..UptoSaid' is the law's where the arguments, and the package variables that the reading takes, are together of bulk at most 1048576: NARROWER than '..Said'. Prove '..Said' where nothing that the law and all that it calls make is longer than what came in: it says more and counts as full. Else prove '..UptoSaid'. A law counts once. -/
mutual
def uptoBulk {H : Type} : DataW H → Nat
  | .lit (.string bytes) => bytes.length + 1
  | .lit _ => 1
  | .nil => 1
  | .ptr d => uptoBulk d + 1
  | .slice elems spare => uptoBulkAll elems + uptoBulkAll spare + 1
  | .agg parts => uptoBulkAll parts + 1
  | .iface _ d => uptoBulk d + 1
  | .map entries => uptoBulkEntries entries + 1
  | .held _ => 1
def uptoBulkAll {H : Type} : List (DataW H) → Nat
  | [] => 0
  | d :: r => uptoBulk d + uptoBulkAll r
def uptoBulkEntries {H : Type} : List (Lit × DataW H) → Nat
  | [] => 0
  | x :: r => uptoBulkEntry x + uptoBulkEntries r
def uptoBulkEntry {H : Type} : Lit × DataW H → Nat
  | (.string bytes, d) => bytes.length + uptoBulk d + 1
  | (_, d) => uptoBulk d + 1
 end
def uptoSmall : (H : Type) → List (DataW H) → Bool := fun _ ds => decide (uptoBulkAll ds ≤ 1048576)
def OpenSpec.upto (s : _root_.Go.ChangeSpec) : _root_.Go.OpenSpec := { _root_.Go.OpenSpec.ofChange s with cond := some uptoSmall }

/-- 'towpathlaw03.RecMerges', WHERE WHAT IT READS IS OF BULK AT MOST 1048576: true; the input reads as it did. -/
def recMergesUptoRow : OpenClaim := { program := "ytapnhhoegoakiaa", sum := "366bd214938e0e7d31f2f7ebb3dc4f945397ccfddcc3c3e229f91f2f01e174b3", func := "towpath/towpathlaw03.RecMerges", spec := "recMerges", unfollowed := true, recurses := true, apart := false, narrowed := true }
def RecMergesUptoSaid : Prop := recMergesUptoRow.holds Try.pinned (OpenSpec.upto recMergesSpec)

/-- 'towpathlaw09.CompactCleans', WHERE WHAT IT READS IS OF BULK AT MOST 1048576: true; the input reads as it did. -/
def compactCleansUptoRow : OpenClaim := { program := "ytapnhhoegoakiaa", sum := "366bd214938e0e7d31f2f7ebb3dc4f945397ccfddcc3c3e229f91f2f01e174b3", func := "towpath/towpathlaw09.CompactCleans", spec := "compactCleans", inPlace := ["slices.overlaps[towpath/rec.At]"], unfollowed := true, recurses := true, apart := false, narrowed := true }
def CompactCleansUptoSaid : Prop := compactCleansUptoRow.holds Try.pinned (OpenSpec.upto compactCleansSpec)

/-- 'towpathlaw09.CompactAgain', WHERE WHAT IT READS IS OF BULK AT MOST 1048576: true; the input reads as it did. -/
def compactAgainUptoRow : OpenClaim := { program := "ytapnhhoegoakiaa", sum := "366bd214938e0e7d31f2f7ebb3dc4f945397ccfddcc3c3e229f91f2f01e174b3", func := "towpath/towpathlaw09.CompactAgain", spec := "compactAgain", inPlace := ["slices.overlaps[towpath/rec.At]"], unfollowed := true, recurses := true, apart := false, narrowed := true }
def CompactAgainUptoSaid : Prop := compactAgainUptoRow.holds Try.pinned (OpenSpec.upto compactAgainSpec)

/-- 'towpathlaw09.CompactStays', WHERE WHAT IT READS IS OF BULK AT MOST 1048576: true; the input reads as it did. -/
def compactStaysUptoRow : OpenClaim := { program := "ytapnhhoegoakiaa", sum := "366bd214938e0e7d31f2f7ebb3dc4f945397ccfddcc3c3e229f91f2f01e174b3", func := "towpath/towpathlaw09.CompactStays", spec := "compactStays", inPlace := ["slices.overlaps[towpath/rec.At]"], unfollowed := true, recurses := true, apart := false, narrowed := true }
def CompactStaysUptoSaid : Prop := compactStaysUptoRow.holds Try.pinned (OpenSpec.upto compactStaysSpec)

/-- 'towpathlaw09.CompactCuts', WHERE WHAT IT READS IS OF BULK AT MOST 1048576: true; the input reads as it did. -/
def compactCutsUptoRow : OpenClaim := { program := "ytapnhhoegoakiaa", sum := "366bd214938e0e7d31f2f7ebb3dc4f945397ccfddcc3c3e229f91f2f01e174b3", func := "towpath/towpathlaw09.CompactCuts", spec := "compactCuts", inPlace := ["slices.overlaps[towpath/rec.At]"], unfollowed := true, recurses := true, apart := false, narrowed := true }
def CompactCutsUptoSaid : Prop := compactCutsUptoRow.holds Try.pinned (OpenSpec.upto compactCutsSpec)

/-- 'towpathlaw09.CompactNil', WHERE WHAT IT READS IS OF BULK AT MOST 1048576: true; the input reads as it did. -/
def compactNilUptoRow : OpenClaim := { program := "ytapnhhoegoakiaa", sum := "366bd214938e0e7d31f2f7ebb3dc4f945397ccfddcc3c3e229f91f2f01e174b3", func := "towpath/towpathlaw09.CompactNil", spec := "compactNil", inPlace := ["slices.overlaps[towpath/rec.At]"], unfollowed := true, recurses := true, apart := false, narrowed := true }
def CompactNilUptoSaid : Prop := compactNilUptoRow.holds Try.pinned (OpenSpec.upto compactNilSpec)

end Rows
end Go.Proofs.Ytapnhhoegoakiaa
