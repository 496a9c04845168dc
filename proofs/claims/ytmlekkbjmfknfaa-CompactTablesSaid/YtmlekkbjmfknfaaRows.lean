/-
  No cell of these rows narrows 'for every input' (looked for: loops, veiled, ifaces, maps, wideKeys, modest, calm, conditions, laid).
  DERIVED. THE GIVEN ROWS OF THIS SEAT. 5 by the template 'for every input the law returns true; each argument reads behind the call as it read before'; 0 by the template 'total and deterministic' (their statements: YtmlekkbjmfknfaaTotals.lean).
  GIVEN WITH THE SEED: the statements are not yours to turn. If you find one false, say at which input.
  Laid BY PROGRAM, IN A SANDBOX (cutbox-rows.mjs): the forced cells as the released guide's own fill.sh prints them over the translation f40cdef5d53c5c66… (all of the seat's roots in one cut). By AI agents, Wed Nov 11 2026. No macro, syntax, notation, axiom, sorry.
-/
import Derived.Test.YtmlekkbjmfknfaaChecked
import GoSem.Claim
import GoSem.ClaimJoined
import GoSem.ClaimMapViews
import Derived.JoinedTies
import Derived.KernelRfl
namespace Go.Proofs.Ytmlekkbjmfknfaa
/- THE CELL 'sum', in the pinned program and in every row, IS THE sha256 OF THE DUMP (.gsa) THAT YtmlekkbjmfknfaaProg.lean LOADS. Nothing in Lean hashes anything: it is a label: what it is worth is what the hold of that sum in a sandbox is worth. -/
noncomputable def Try.pinned : Pinned := { name := "ytmlekkbjmfknfaa", sum := "f40cdef5d53c5c66b49fe52b2d7f150f4e34324b5b325be5e520dfa24284e2c0", checked := Try.checked }
namespace Rows
def none {H : Type} : Left H := { results := [], args := [] }

/-- 'towpathlaw09.CompactTables': WHATEVER THE INPUT: true; the input reads as it did. -/
def compactTablesSpec : ChangeSpec := { name := "compactTables", fn := fun _ => fun
  | [d1, d2] => { results := [.lit (.bool true)], args := [d1, d2] }
  | _ => none }
def compactTablesRow : OpenClaim := { program := "ytmlekkbjmfknfaa", sum := "f40cdef5d53c5c66b49fe52b2d7f150f4e34324b5b325be5e520dfa24284e2c0", func := "towpath/towpathlaw09.CompactTables", spec := "compactTables", inPlace := ["slices.overlaps[towpath/rec.At]"], unfollowed := true, recurses := true, plainKeys := false, apart := false }
def CompactTablesSaid : Prop := compactTablesRow.holds Try.pinned (OpenSpec.ofChange compactTablesSpec)

/-- ITS FALSE NEIGHBOUR: 'it returns false'. Refute it at one input. -/
def compactTablesWrong : ChangeSpec := { name := "compactTables", fn := fun _ => fun
  | [d1, d2] => { results := [.lit (.bool false)], args := [d1, d2] }
  | _ => none }
def CompactTablesWrongFalsely : Prop := compactTablesRow.holds Try.pinned (OpenSpec.ofChange compactTablesWrong)

/-- 'towpathlaw11.AssignDeals': WHATEVER THE INPUT: true; the input reads as it did. -/
def assignDealsSpec : ChangeSpec := { name := "assignDeals", fn := fun _ => fun
  | [d1, d2] => { results := [.lit (.bool true)], args := [d1, d2] }
  | _ => none }
def assignDealsRow : OpenClaim := { program := "ytmlekkbjmfknfaa", sum := "f40cdef5d53c5c66b49fe52b2d7f150f4e34324b5b325be5e520dfa24284e2c0", func := "towpath/towpathlaw11.AssignDeals", spec := "assignDeals", unfollowed := true, recurses := true, plainKeys := false, apart := false }
def AssignDealsSaid : Prop := assignDealsRow.holds Try.pinned (OpenSpec.ofChange assignDealsSpec)

/-- ITS FALSE NEIGHBOUR: 'it returns false'. Refute it at one input. -/
def assignDealsWrong : ChangeSpec := { name := "assignDeals", fn := fun _ => fun
  | [d1, d2] => { results := [.lit (.bool false)], args := [d1, d2] }
  | _ => none }
def AssignDealsWrongFalsely : Prop := assignDealsRow.holds Try.pinned (OpenSpec.ofChange assignDealsWrong)

/-- 'towpathlaw11.AssignEven': WHATEVER THE INPUT: true; the input reads as it did. -/
def assignEvenSpec : ChangeSpec := { name := "assignEven", fn := fun _ => fun
  | [d1, d2] => { results := [.lit (.bool true)], args := [d1, d2] }
  | _ => none }
def assignEvenRow : OpenClaim := { program := "ytmlekkbjmfknfaa", sum := "f40cdef5d53c5c66b49fe52b2d7f150f4e34324b5b325be5e520dfa24284e2c0", func := "towpath/towpathlaw11.AssignEven", spec := "assignEven", unfollowed := true, recurses := true, plainKeys := false, apart := false }
def AssignEvenSaid : Prop := assignEvenRow.holds Try.pinned (OpenSpec.ofChange assignEvenSpec)

/-- ITS FALSE NEIGHBOUR: 'it returns false'. Refute it at one input. -/
def assignEvenWrong : ChangeSpec := { name := "assignEven", fn := fun _ => fun
  | [d1, d2] => { results := [.lit (.bool false)], args := [d1, d2] }
  | _ => none }
def AssignEvenWrongFalsely : Prop := assignEvenRow.holds Try.pinned (OpenSpec.ofChange assignEvenWrong)

/-- 'towpathlaw11.AssignChecks': WHATEVER THE INPUT: true; the input reads as it did. -/
def assignChecksSpec : ChangeSpec := { name := "assignChecks", fn := fun _ => fun
  | [d1, d2, d3, d4] => { results := [.lit (.bool true)], args := [d1, d2, d3, d4] }
  | _ => none }
def assignChecksRow : OpenClaim := { program := "ytmlekkbjmfknfaa", sum := "f40cdef5d53c5c66b49fe52b2d7f150f4e34324b5b325be5e520dfa24284e2c0", func := "towpath/towpathlaw11.AssignChecks", spec := "assignChecks", unfollowed := true, recurses := true, plainKeys := false, apart := false }
def AssignChecksSaid : Prop := assignChecksRow.holds Try.pinned (OpenSpec.ofChange assignChecksSpec)

/-- ITS FALSE NEIGHBOUR: 'it returns false'. Refute it at one input. -/
def assignChecksWrong : ChangeSpec := { name := "assignChecks", fn := fun _ => fun
  | [d1, d2, d3, d4] => { results := [.lit (.bool false)], args := [d1, d2, d3, d4] }
  | _ => none }
def AssignChecksWrongFalsely : Prop := assignChecksRow.holds Try.pinned (OpenSpec.ofChange assignChecksWrong)

/-- 'towpathlaw11.AssignKeeps': WHATEVER THE INPUT: true; the input reads as it did. -/
def assignKeepsSpec : ChangeSpec := { name := "assignKeeps", fn := fun _ => fun
  | [d1, d2, d3] => { results := [.lit (.bool true)], args := [d1, d2, d3] }
  | _ => none }
def assignKeepsRow : OpenClaim := { program := "ytmlekkbjmfknfaa", sum := "f40cdef5d53c5c66b49fe52b2d7f150f4e34324b5b325be5e520dfa24284e2c0", func := "towpath/towpathlaw11.AssignKeeps", spec := "assignKeeps", unfollowed := true, recurses := true, plainKeys := false, apart := false }
def AssignKeepsSaid : Prop := assignKeepsRow.holds Try.pinned (OpenSpec.ofChange assignKeepsSpec)

/-- ITS FALSE NEIGHBOUR: 'it returns false'. Refute it at one input. -/
def assignKeepsWrong : ChangeSpec := { name := "assignKeeps", fn := fun _ => fun
  | [d1, d2, d3] => { results := [.lit (.bool false)], args := [d1, d2, d3] }
  | _ => none }
def AssignKeepsWrongFalsely : Prop := assignKeepsRow.holds Try.pinned (OpenSpec.ofChange assignKeepsWrong)

/- THE SECOND FORM. 'bulk': how many values and letters a reading holds, each counted each time it is reached (what is shared counts as often as it is met; a slice's spare places count too). A statement '..UptoSaid' is the law's where the arguments, and the package variables that the reading takes, are together of bulk at most 1048576: NARROWER than '..Said'. Prove '..Said' where nothing that the law and all that it calls make is longer than what came in: it says more and counts as full. Else prove '..UptoSaid'. A law counts once. -/
mutual
def uptoBulk {H : Type} : DataW H → Nat
  | .lit (.string bytes) => bytes.length + 1
  | .lit _ => 1
  | .nil => 1
  | .ptr d => uptoBulk d + 1
  | .slice elems spare => uptoBulkAll elems + uptoBulkAll spare + 1
  | .agg parts => uptoBulkAll parts + 1
  | .iface _ d => uptoBulk d + 1
  | .map entries => uptoBulkEntries entries + 1
  | .held _ => 1
def uptoBulkAll {H : Type} : List (DataW H) → Nat
  | [] => 0
  | d :: r => uptoBulk d + uptoBulkAll r
def uptoBulkEntries {H : Type} : List (Lit × DataW H) → Nat
  | [] => 0
  | x :: r => uptoBulkEntry x + uptoBulkEntries r
def uptoBulkEntry {H : Type} : Lit × DataW H → Nat
  | (.string bytes, d) => bytes.length + uptoBulk d + 1
  | (_, d) => uptoBulk d + 1
 end
def uptoSmall : (H : Type) → List (DataW H) → Bool := fun _ ds => decide (uptoBulkAll ds ≤ 1048576)
def OpenSpec.upto (s : _root_.Go.ChangeSpec) : _root_.Go.OpenSpec := { _root_.Go.OpenSpec.ofChange s with cond := some uptoSmall }

/-- 'towpathlaw09.CompactTables', WHERE WHAT IT READS IS OF BULK AT MOST 1048576: true; the input reads as it did. -/
def compactTablesUptoRow : OpenClaim := { program := "ytmlekkbjmfknfaa", sum := "f40cdef5d53c5c66b49fe52b2d7f150f4e34324b5b325be5e520dfa24284e2c0", func := "towpath/towpathlaw09.CompactTables", spec := "compactTables", inPlace := ["slices.overlaps[towpath/rec.At]"], unfollowed := true, recurses := true, plainKeys := false, apart := false, narrowed := true }
def CompactTablesUptoSaid : Prop := compactTablesUptoRow.holds Try.pinned (OpenSpec.upto compactTablesSpec)

/-- 'towpathlaw11.AssignDeals', WHERE WHAT IT READS IS OF BULK AT MOST 1048576: true; the input reads as it did. -/
def assignDealsUptoRow : OpenClaim := { program := "ytmlekkbjmfknfaa", sum := "f40cdef5d53c5c66b49fe52b2d7f150f4e34324b5b325be5e520dfa24284e2c0", func := "towpath/towpathlaw11.AssignDeals", spec := "assignDeals", unfollowed := true, recurses := true, plainKeys := false, apart := false, narrowed := true }
def AssignDealsUptoSaid : Prop := assignDealsUptoRow.holds Try.pinned (OpenSpec.upto assignDealsSpec)

/-- 'towpathlaw11.AssignEven', WHERE WHAT IT READS IS OF BULK AT MOST 1048576: true; the input reads as it did. -/
def assignEvenUptoRow : OpenClaim := { program := "ytmlekkbjmfknfaa", sum := "f40cdef5d53c5c66b49fe52b2d7f150f4e34324b5b325be5e520dfa24284e2c0", func := "towpath/towpathlaw11.AssignEven", spec := "assignEven", unfollowed := true, recurses := true, plainKeys := false, apart := false, narrowed := true }
def AssignEvenUptoSaid : Prop := assignEvenUptoRow.holds Try.pinned (OpenSpec.upto assignEvenSpec)

/-- 'towpathlaw11.AssignChecks', WHERE WHAT IT READS IS OF BULK AT MOST 1048576: true; the input reads as it did. -/
def assignChecksUptoRow : OpenClaim := { program := "ytmlekkbjmfknfaa", sum := "f40cdef5d53c5c66b49fe52b2d7f150f4e34324b5b325be5e520dfa24284e2c0", func := "towpath/towpathlaw11.AssignChecks", spec := "assignChecks", unfollowed := true, recurses := true, plainKeys := false, apart := false, narrowed := true }
def AssignChecksUptoSaid : Prop := assignChecksUptoRow.holds Try.pinned (OpenSpec.upto assignChecksSpec)

/-- 'towpathlaw11.AssignKeeps', WHERE WHAT IT READS IS OF BULK AT MOST 1048576: true; the input reads as it did. -/
def assignKeepsUptoRow : OpenClaim := { program := "ytmlekkbjmfknfaa", sum := "f40cdef5d53c5c66b49fe52b2d7f150f4e34324b5b325be5e520dfa24284e2c0", func := "towpath/towpathlaw11.AssignKeeps", spec := "assignKeeps", unfollowed := true, recurses := true, plainKeys := false, apart := false, narrowed := true }
def AssignKeepsUptoSaid : Prop := assignKeepsUptoRow.holds Try.pinned (OpenSpec.upto assignKeepsSpec)

end Rows
end Go.Proofs.Ytmlekkbjmfknfaa
