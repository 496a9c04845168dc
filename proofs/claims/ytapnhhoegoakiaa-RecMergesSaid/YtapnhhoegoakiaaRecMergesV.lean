/-
  RecMerges answers true, of any batches and any Booleans.
-/
import Derived.Test.YtapnhhoegoakiaaRecMergesW
import Derived.Test.YtapnhhoegoakiaaRecRm
namespace Go.Proofs.Ytapnhhoegoakiaa
open Go.RowKit

theorem recMerges_any (A : Option Addr) (n c : Nat) (M0 : List BA) (GA : Option Addr) (gn gc : Nat) (GL : List Bool) (w : World) (h : Bai w w.heap.size A n M0) (hn : n ≤ maxLen) (hg : Bbs w w.heap.size GA gn GL) (hgn : gn ≤ maxLen) :
    Calls Try.prog 3 #[.slice A n c, .slice GA gn gc] w fun e w' => e = .returned (.bool true) ∧ Below w.heap.size w w' :=
  merges_any A n c M0 GA gn gc GL w h hn hg hgn fun M A c B n w h1 h2 h3 h4 h5 => rmerge_any M A c B n w h1 h2 h3 h4 h5
end Go.Proofs.Ytapnhhoegoakiaa
