/-
  No cell of these rows narrows 'for every input' (looked for: loops, veiled, ifaces, maps, wideKeys, modest, calm, conditions, laid).
  DERIVED. THE GIVEN ROWS OF THIS SEAT. 3 by the template 'for every input the law returns true; each argument reads behind the call as it read before'; 0 by the template 'total and deterministic' (their statements: YtkdpfajoeajenaaTotals.lean).
  GIVEN WITH THE SEED: the statements are not yours to turn. If you find one false, say at which input.
  Laid BY PROGRAM, IN A SANDBOX (cutbox-rows.mjs): the forced cells as the released guide's own fill.sh prints them over the translation c4cf5fe94e2af6b7… (all of the seat's roots in one cut). By AI agents, Wed Nov 11 2026. No macro, syntax, notation, axiom, sorry.
-/
import Derived.Test.YtkdpfajoeajenaaChecked
import GoSem.Claim
import GoSem.ClaimJoined
import GoSem.ClaimMapViews
import Derived.JoinedTies
import Derived.KernelRfl
namespace Go.Proofs.Ytkdpfajoeajenaa
/- THE CELL 'sum', in the pinned program and in every row, IS THE sha256 OF THE DUMP (.gsa) THAT YtkdpfajoeajenaaProg.lean LOADS. Nothing in Lean hashes anything: it is a label: what it is worth is what the hold of that sum in a sandbox is worth. -/
noncomputable def Try.pinned : Pinned := { name := "ytkdpfajoeajenaa", sum := "c4cf5fe94e2af6b769faf533981f38208a7fe91ad95713eb5cf1a3534142eb2d", checked := Try.checked }
namespace Rows
def none {H : Type} : Left H := { results := [], args := [] }

/-- 'towpathlaw03.RecSplits': WHATEVER THE INPUT: true; the input reads as it did. -/
def recSplitsSpec : ChangeSpec := { name := "recSplits", fn := fun _ => fun
  | [d1, d2] => { results := [.lit (.bool true)], args := [d1, d2] }
  | _ => none }
def recSplitsRow : OpenClaim := { program := "ytkdpfajoeajenaa", sum := "c4cf5fe94e2af6b769faf533981f38208a7fe91ad95713eb5cf1a3534142eb2d", func := "towpath/towpathlaw03.RecSplits", spec := "recSplits", unfollowed := true, recurses := true, apart := false }
def RecSplitsSaid : Prop := recSplitsRow.holds Try.pinned (OpenSpec.ofChange recSplitsSpec)

/-- ITS FALSE NEIGHBOUR: 'it returns false'. Refute it at one input. -/
def recSplitsWrong : ChangeSpec := { name := "recSplits", fn := fun _ => fun
  | [d1, d2] => { results := [.lit (.bool false)], args := [d1, d2] }
  | _ => none }
def RecSplitsWrongFalsely : Prop := recSplitsRow.holds Try.pinned (OpenSpec.ofChange recSplitsWrong)

/-- 'towpathlaw09.CompactPacks': WHATEVER THE INPUT: true; the input reads as it did. -/
def compactPacksSpec : ChangeSpec := { name := "compactPacks", fn := fun _ => fun
  | [d1, d2] => { results := [.lit (.bool true)], args := [d1, d2] }
  | _ => none }
def compactPacksRow : OpenClaim := { program := "ytkdpfajoeajenaa", sum := "c4cf5fe94e2af6b769faf533981f38208a7fe91ad95713eb5cf1a3534142eb2d", func := "towpath/towpathlaw09.CompactPacks", spec := "compactPacks", inPlace := ["slices.overlaps[towpath/rec.At]"], unfollowed := true, recurses := true, apart := false }
def CompactPacksSaid : Prop := compactPacksRow.holds Try.pinned (OpenSpec.ofChange compactPacksSpec)

/-- ITS FALSE NEIGHBOUR: 'it returns false'. Refute it at one input. -/
def compactPacksWrong : ChangeSpec := { name := "compactPacks", fn := fun _ => fun
  | [d1, d2] => { results := [.lit (.bool false)], args := [d1, d2] }
  | _ => none }
def CompactPacksWrongFalsely : Prop := compactPacksRow.holds Try.pinned (OpenSpec.ofChange compactPacksWrong)

/-- 'towpathlaw09.CompactTables': WHATEVER THE INPUT: true; the input reads as it did. -/
def compactTablesSpec : ChangeSpec := { name := "compactTables", fn := fun _ => fun
  | [d1, d2] => { results := [.lit (.bool true)], args := [d1, d2] }
  | _ => none }
def compactTablesRow : OpenClaim := { program := "ytkdpfajoeajenaa", sum := "c4cf5fe94e2af6b769faf533981f38208a7fe91ad95713eb5cf1a3534142eb2d", func := "towpath/towpathlaw09.CompactTables", spec := "compactTables", inPlace := ["slices.overlaps[towpath/rec.At]"], unfollowed := true, recurses := true, apart := false }
def CompactTablesSaid : Prop := compactTablesRow.holds Try.pinned (OpenSpec.ofChange compactTablesSpec)

/-- ITS FALSE NEIGHBOUR: 'it returns false'. Refute it at one input. -/
def compactTablesWrong : ChangeSpec := { name := "compactTables", fn := fun _ => fun
  | [d1, d2] => { results := [.lit (.bool false)], args := [d1, d2] }
  | _ => none }
def CompactTablesWrongFalsely : Prop := compactTablesRow.holds Try.pinned (OpenSpec.ofChange compactTablesWrong)

/- THE SECOND FORM. 'bulk': how many values and letters a reading holds, each counted each time it is reached (what is shared counts as often as it is met; a slice's spare places count too). A statement '..UptoSaid' is the law's where the arguments, and the package variables that the reading takes, are together of bulk at most 1048576: NARROWER than '..Said'. Prove '..Said' where nothing that the law and all that it calls make is longer than what came in: it says more and counts as full. Else prove '..UptoSaid'. A law counts once. -/
mutual
def uptoBulk {H : Type} : DataW H → Nat
  | .lit (.string bytes) => bytes.length + 1
  | .lit _ => 1
  | .nil => 1
  | .ptr d => uptoBulk d + 1
  | .slice elems spare => uptoBulkAll elems + uptoBulkAll spare + 1
  | .agg parts => uptoBulkAll parts + 1
  | .iface _ d => uptoBulk d + 1
  | .map entries => uptoBulkEntries entries + 1
  | .held _ => 1
def uptoBulkAll {H : Type} : List (DataW H) → Nat
  | [] => 0
  | d :: r => uptoBulk d + uptoBulkAll r
def uptoBulkEntries {H : Type} : List (Lit × DataW H) → Nat
  | [] => 0
  | x :: r => uptoBulkEntry x + uptoBulkEntries r
def uptoBulkEntry {H : Type} : Lit × DataW H → Nat
  | (.string bytes, d) => bytes.length + uptoBulk d + 1
  | (_, d) => uptoBulk d + 1
 end
def uptoSmall : (H : Type) → List (DataW H) → Bool := fun _ ds => decide (uptoBulkAll ds ≤ 1048576)
def OpenSpec.upto (s : _root_.Go.ChangeSpec) : _root_.Go.OpenSpec := { _root_.Go.OpenSpec.ofChange s with cond := some uptoSmall }

/-- 'towpathlaw03.RecSplits', WHERE WHAT IT READS IS OF BULK AT MOST 1048576: true; the input reads as it did. -/
def recSplitsUptoRow : OpenClaim := { program := "ytkdpfajoeajenaa", sum := "c4cf5fe94e2af6b769faf533981f38208a7fe91ad95713eb5cf1a3534142eb2d", func := "towpath/towpathlaw03.RecSplits", spec := "recSplits", unfollowed := true, recurses := true, apart := false, narrowed := true }
def RecSplitsUptoSaid : Prop := recSplitsUptoRow.holds Try.pinned (OpenSpec.upto recSplitsSpec)

/-- 'towpathlaw09.CompactPacks', WHERE WHAT IT READS IS OF BULK AT MOST 1048576: true; the input reads as it did. -/
def compactPacksUptoRow : OpenClaim := { program := "ytkdpfajoeajenaa", sum := "c4cf5fe94e2af6b769faf533981f38208a7fe91ad95713eb5cf1a3534142eb2d", func := "towpath/towpathlaw09.CompactPacks", spec := "compactPacks", inPlace := ["slices.overlaps[towpath/rec.At]"], unfollowed := true, recurses := true, apart := false, narrowed := true }
def CompactPacksUptoSaid : Prop := compactPacksUptoRow.holds Try.pinned (OpenSpec.upto compactPacksSpec)

/-- 'towpathlaw09.CompactTables', WHERE WHAT IT READS IS OF BULK AT MOST 1048576: true; the input reads as it did. -/
def compactTablesUptoRow : OpenClaim := { program := "ytkdpfajoeajenaa", sum := "c4cf5fe94e2af6b769faf533981f38208a7fe91ad95713eb5cf1a3534142eb2d", func := "towpath/towpathlaw09.CompactTables", spec := "compactTables", inPlace := ["slices.overlaps[towpath/rec.At]"], unfollowed := true, recurses := true, apart := false, narrowed := true }
def CompactTablesUptoSaid : Prop := compactTablesUptoRow.holds Try.pinned (OpenSpec.upto compactTablesSpec)

end Rows
end Go.Proofs.Ytkdpfajoeajenaa
