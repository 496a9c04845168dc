/-
  No cell of these rows narrows 'for every input' (looked for: loops, veiled, ifaces, maps, wideKeys, modest, calm, conditions, laid).
  DERIVED. THE GIVEN ROWS OF THIS SEAT. 6 by the template 'for every input the law returns true; each argument reads behind the call as it read before'; 0 by the template 'total and deterministic' (their statements: YtofakehnadpebaaTotals.lean).
  GIVEN WITH THE SEED: the statements are not yours to turn. If you find one false, say at which input.
  Laid BY PROGRAM, IN A SANDBOX (cutbox-rows.mjs): the forced cells as the released guide's own fill.sh prints them over the translation f2e84ec75db1ad8e… (all of the seat's roots in one cut). By AI agents, Wed Nov 11 2026. No macro, syntax, notation, axiom, sorry.
-/
import Derived.Test.YtofakehnadpebaaChecked
import GoSem.Claim
import GoSem.ClaimJoined
import GoSem.ClaimMapViews
import Derived.JoinedTies
import Derived.KernelRfl
namespace Go.Proofs.Ytofakehnadpebaa
/- THE CELL 'sum', in the pinned program and in every row, IS THE sha256 OF THE DUMP (.gsa) THAT YtofakehnadpebaaProg.lean LOADS. Nothing in Lean hashes anything: it is a label: what it is worth is what the hold of that sum in a sandbox is worth. -/
noncomputable def Try.pinned : Pinned := { name := "ytofakehnadpebaa", sum := "f2e84ec75db1ad8ef32bf1ded3d218a72d55dc779d191e59049f2fed32abe1d4", checked := Try.checked }
namespace Rows
def none {H : Type} : Left H := { results := [], args := [] }

/-- 'towpathlaw03.RecMerges': WHATEVER THE INPUT: true; the input reads as it did. -/
def recMergesSpec : ChangeSpec := { name := "recMerges", fn := fun _ => fun
  | [d1, d2] => { results := [.lit (.bool true)], args := [d1, d2] }
  | _ => none }
def recMergesRow : OpenClaim := { program := "ytofakehnadpebaa", sum := "f2e84ec75db1ad8ef32bf1ded3d218a72d55dc779d191e59049f2fed32abe1d4", func := "towpath/towpathlaw03.RecMerges", spec := "recMerges", unfollowed := true, recurses := true, plainKeys := false, apart := false }
def RecMergesSaid : Prop := recMergesRow.holds Try.pinned (OpenSpec.ofChange recMergesSpec)

/-- ITS FALSE NEIGHBOUR: 'it returns false'. Refute it at one input. -/
def recMergesWrong : ChangeSpec := { name := "recMerges", fn := fun _ => fun
  | [d1, d2] => { results := [.lit (.bool false)], args := [d1, d2] }
  | _ => none }
def RecMergesWrongFalsely : Prop := recMergesRow.holds Try.pinned (OpenSpec.ofChange recMergesWrong)

/-- 'towpathlaw03.RecSplits': WHATEVER THE INPUT: true; the input reads as it did. -/
def recSplitsSpec : ChangeSpec := { name := "recSplits", fn := fun _ => fun
  | [d1, d2] => { results := [.lit (.bool true)], args := [d1, d2] }
  | _ => none }
def recSplitsRow : OpenClaim := { program := "ytofakehnadpebaa", sum := "f2e84ec75db1ad8ef32bf1ded3d218a72d55dc779d191e59049f2fed32abe1d4", func := "towpath/towpathlaw03.RecSplits", spec := "recSplits", unfollowed := true, recurses := true, plainKeys := false, apart := false }
def RecSplitsSaid : Prop := recSplitsRow.holds Try.pinned (OpenSpec.ofChange recSplitsSpec)

/-- ITS FALSE NEIGHBOUR: 'it returns false'. Refute it at one input. -/
def recSplitsWrong : ChangeSpec := { name := "recSplits", fn := fun _ => fun
  | [d1, d2] => { results := [.lit (.bool false)], args := [d1, d2] }
  | _ => none }
def RecSplitsWrongFalsely : Prop := recSplitsRow.holds Try.pinned (OpenSpec.ofChange recSplitsWrong)

/-- 'towpathlaw07.DedupNil': WHATEVER THE INPUT: true; the input reads as it did. -/
def dedupNilSpec : ChangeSpec := { name := "dedupNil", fn := fun _ => fun
  | [d1, d2] => { results := [.lit (.bool true)], args := [d1, d2] }
  | _ => none }
def dedupNilRow : OpenClaim := { program := "ytofakehnadpebaa", sum := "f2e84ec75db1ad8ef32bf1ded3d218a72d55dc779d191e59049f2fed32abe1d4", func := "towpath/towpathlaw07.DedupNil", spec := "dedupNil", inPlace := ["maps.clone"], unfollowed := true, recurses := true, plainKeys := false, apart := false }
def DedupNilSaid : Prop := dedupNilRow.holds Try.pinned (OpenSpec.ofChange dedupNilSpec)

/-- ITS FALSE NEIGHBOUR: 'it returns false'. Refute it at one input. -/
def dedupNilWrong : ChangeSpec := { name := "dedupNil", fn := fun _ => fun
  | [d1, d2] => { results := [.lit (.bool false)], args := [d1, d2] }
  | _ => none }
def DedupNilWrongFalsely : Prop := dedupNilRow.holds Try.pinned (OpenSpec.ofChange dedupNilWrong)

/-- 'towpathlaw07.DedupOnce': WHATEVER THE INPUT: true; the input reads as it did. -/
def dedupOnceSpec : ChangeSpec := { name := "dedupOnce", fn := fun _ => fun
  | [d1, d2] => { results := [.lit (.bool true)], args := [d1, d2] }
  | _ => none }
def dedupOnceRow : OpenClaim := { program := "ytofakehnadpebaa", sum := "f2e84ec75db1ad8ef32bf1ded3d218a72d55dc779d191e59049f2fed32abe1d4", func := "towpath/towpathlaw07.DedupOnce", spec := "dedupOnce", plainKeys := false, apart := false }
def DedupOnceSaid : Prop := dedupOnceRow.holds Try.pinned (OpenSpec.ofChange dedupOnceSpec)

/-- ITS FALSE NEIGHBOUR: 'it returns false'. Refute it at one input. -/
def dedupOnceWrong : ChangeSpec := { name := "dedupOnce", fn := fun _ => fun
  | [d1, d2] => { results := [.lit (.bool false)], args := [d1, d2] }
  | _ => none }
def DedupOnceWrongFalsely : Prop := dedupOnceRow.holds Try.pinned (OpenSpec.ofChange dedupOnceWrong)

/-- 'towpathlaw07.DedupStable': WHATEVER THE INPUT: true; the input reads as it did. -/
def dedupStableSpec : ChangeSpec := { name := "dedupStable", fn := fun _ => fun
  | [d] => { results := [.lit (.bool true)], args := [d] }
  | _ => none }
def dedupStableRow : OpenClaim := { program := "ytofakehnadpebaa", sum := "f2e84ec75db1ad8ef32bf1ded3d218a72d55dc779d191e59049f2fed32abe1d4", func := "towpath/towpathlaw07.DedupStable", spec := "dedupStable", unfollowed := true, recurses := true, plainKeys := false, apart := false }
def DedupStableSaid : Prop := dedupStableRow.holds Try.pinned (OpenSpec.ofChange dedupStableSpec)

/-- ITS FALSE NEIGHBOUR: 'it returns false'. Refute it at one input. -/
def dedupStableWrong : ChangeSpec := { name := "dedupStable", fn := fun _ => fun
  | [d] => { results := [.lit (.bool false)], args := [d] }
  | _ => none }
def DedupStableWrongFalsely : Prop := dedupStableRow.holds Try.pinned (OpenSpec.ofChange dedupStableWrong)

/-- 'towpathlaw08.IsoNil': WHATEVER THE INPUT: true; the input reads as it did. -/
def isoNilSpec : ChangeSpec := { name := "isoNil", fn := fun _ => fun
  | [d1, d2] => { results := [.lit (.bool true)], args := [d1, d2] }
  | _ => none }
def isoNilRow : OpenClaim := { program := "ytofakehnadpebaa", sum := "f2e84ec75db1ad8ef32bf1ded3d218a72d55dc779d191e59049f2fed32abe1d4", func := "towpath/towpathlaw08.IsoNil", spec := "isoNil", inPlace := ["maps.clone"], unfollowed := true, recurses := true, plainKeys := false, apart := false }
def IsoNilSaid : Prop := isoNilRow.holds Try.pinned (OpenSpec.ofChange isoNilSpec)

/-- ITS FALSE NEIGHBOUR: 'it returns false'. Refute it at one input. -/
def isoNilWrong : ChangeSpec := { name := "isoNil", fn := fun _ => fun
  | [d1, d2] => { results := [.lit (.bool false)], args := [d1, d2] }
  | _ => none }
def IsoNilWrongFalsely : Prop := isoNilRow.holds Try.pinned (OpenSpec.ofChange isoNilWrong)

/- THE SECOND FORM. 'bulk': how many values and letters a reading holds, each counted each time it is reached (what is shared counts as often as it is met; a slice's spare places count too). A statement '..UptoSaid' is the law's where the arguments, and the package variables that the reading takes, are together of bulk at most 1048576: NARROWER than '..Said'. Prove '..Said' where nothing that the law and all that it calls make is longer than what came in: it says more and counts as full. Else prove '..UptoSaid'. A law counts once. -/
mutual
def uptoBulk {H : Type} : DataW H → Nat
  | .lit (.string bytes) => bytes.length + 1
  | .lit _ => 1
  | .nil => 1
  | .ptr d => uptoBulk d + 1
  | .slice elems spare => uptoBulkAll elems + uptoBulkAll spare + 1
  | .agg parts => uptoBulkAll parts + 1
  | .iface _ d => uptoBulk d + 1
  | .map entries => uptoBulkEntries entries + 1
  | .held _ => 1
def uptoBulkAll {H : Type} : List (DataW H) → Nat
  | [] => 0
  | d :: r => uptoBulk d + uptoBulkAll r
def uptoBulkEntries {H : Type} : List (Lit × DataW H) → Nat
  | [] => 0
  | x :: r => uptoBulkEntry x + uptoBulkEntries r
def uptoBulkEntry {H : Type} : Lit × DataW H → Nat
  | (.string bytes, d) => bytes.length + uptoBulk d + 1
  | (_, d) => uptoBulk d + 1
 end
def uptoSmall : (H : Type) → List (DataW H) → Bool := fun _ ds => decide (uptoBulkAll ds ≤ 1048576)
def OpenSpec.upto (s : _root_.Go.ChangeSpec) : _root_.Go.OpenSpec := { _root_.Go.OpenSpec.ofChange s with cond := some uptoSmall }

/-- 'towpathlaw03.RecMerges', WHERE WHAT IT READS IS OF BULK AT MOST 1048576: true; the input reads as it did. -/
def recMergesUptoRow : OpenClaim := { program := "ytofakehnadpebaa", sum := "f2e84ec75db1ad8ef32bf1ded3d218a72d55dc779d191e59049f2fed32abe1d4", func := "towpath/towpathlaw03.RecMerges", spec := "recMerges", unfollowed := true, recurses := true, plainKeys := false, apart := false, narrowed := true }
def RecMergesUptoSaid : Prop := recMergesUptoRow.holds Try.pinned (OpenSpec.upto recMergesSpec)

/-- 'towpathlaw03.RecSplits', WHERE WHAT IT READS IS OF BULK AT MOST 1048576: true; the input reads as it did. -/
def recSplitsUptoRow : OpenClaim := { program := "ytofakehnadpebaa", sum := "f2e84ec75db1ad8ef32bf1ded3d218a72d55dc779d191e59049f2fed32abe1d4", func := "towpath/towpathlaw03.RecSplits", spec := "recSplits", unfollowed := true, recurses := true, plainKeys := false, apart := false, narrowed := true }
def RecSplitsUptoSaid : Prop := recSplitsUptoRow.holds Try.pinned (OpenSpec.upto recSplitsSpec)

/-- 'towpathlaw07.DedupNil', WHERE WHAT IT READS IS OF BULK AT MOST 1048576: true; the input reads as it did. -/
def dedupNilUptoRow : OpenClaim := { program := "ytofakehnadpebaa", sum := "f2e84ec75db1ad8ef32bf1ded3d218a72d55dc779d191e59049f2fed32abe1d4", func := "towpath/towpathlaw07.DedupNil", spec := "dedupNil", inPlace := ["maps.clone"], unfollowed := true, recurses := true, plainKeys := false, apart := false, narrowed := true }
def DedupNilUptoSaid : Prop := dedupNilUptoRow.holds Try.pinned (OpenSpec.upto dedupNilSpec)

/-- 'towpathlaw07.DedupOnce', WHERE WHAT IT READS IS OF BULK AT MOST 1048576: true; the input reads as it did. -/
def dedupOnceUptoRow : OpenClaim := { program := "ytofakehnadpebaa", sum := "f2e84ec75db1ad8ef32bf1ded3d218a72d55dc779d191e59049f2fed32abe1d4", func := "towpath/towpathlaw07.DedupOnce", spec := "dedupOnce", plainKeys := false, apart := false, narrowed := true }
def DedupOnceUptoSaid : Prop := dedupOnceUptoRow.holds Try.pinned (OpenSpec.upto dedupOnceSpec)

/-- 'towpathlaw07.DedupStable', WHERE WHAT IT READS IS OF BULK AT MOST 1048576: true; the input reads as it did. -/
def dedupStableUptoRow : OpenClaim := { program := "ytofakehnadpebaa", sum := "f2e84ec75db1ad8ef32bf1ded3d218a72d55dc779d191e59049f2fed32abe1d4", func := "towpath/towpathlaw07.DedupStable", spec := "dedupStable", unfollowed := true, recurses := true, plainKeys := false, apart := false, narrowed := true }
def DedupStableUptoSaid : Prop := dedupStableUptoRow.holds Try.pinned (OpenSpec.upto dedupStableSpec)

/-- 'towpathlaw08.IsoNil', WHERE WHAT IT READS IS OF BULK AT MOST 1048576: true; the input reads as it did. -/
def isoNilUptoRow : OpenClaim := { program := "ytofakehnadpebaa", sum := "f2e84ec75db1ad8ef32bf1ded3d218a72d55dc779d191e59049f2fed32abe1d4", func := "towpath/towpathlaw08.IsoNil", spec := "isoNil", inPlace := ["maps.clone"], unfollowed := true, recurses := true, plainKeys := false, apart := false, narrowed := true }
def IsoNilUptoSaid : Prop := isoNilUptoRow.holds Try.pinned (OpenSpec.upto isoNilSpec)

end Rows
end Go.Proofs.Ytofakehnadpebaa
