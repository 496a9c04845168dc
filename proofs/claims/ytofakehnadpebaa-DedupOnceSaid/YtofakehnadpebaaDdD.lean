/-
  What (*dedup.Table).Judge does: all of it.
-/
import Derived.Test.YtofakehnadpebaaDdCa
import Derived.Test.YtofakehnadpebaaDdCb
import Derived.Test.YtofakehnadpebaaDdCc
import Derived.Test.YtofakehnadpebaaDdCd
namespace Go.Proofs.Ytofakehnadpebaa
open Go.RowKit Go.Maps
set_option linter.unusedVariables false
set_option linter.unusedSimpArgs false

theorem judge_any (b : Bat) (A : Option Addr) (c B g m : Nat) (most next : Int) (L : List Rw) (w : World) (hT : Tb w g m most next L) (hL : Rcs w B A b.L.length b.L) (hB : B ≤ w.heap.size) (hl : b.L.length ≤ maxLen) : Calls Try.prog 20 #[.pointer (some ⟨g, 0, none⟩), .agg (b.cells A c)] w fun e w' => e = .returned (jdgV (jdg most L b)) ∧ Below w.heap.size w w' := by
  by_cases hV : validE b = 0
  · by_cases hP : b.pid = 0
    · exact judge_nobody b A c B g m most next L w hT hL hB hl hV hP
    · by_cases h1 : b.epoch < (knownR L b.pid).epoch
      · exact judge_lt b A c B g m most next L w hT hL hB hl hV hP h1
      · by_cases h2 : b.epoch = (knownR L b.pid).epoch
        · cases hm : markB b with
          | true => exact judge_eqm b A c B g m most next L w hT hL hB hl hV hP h2 hm
          | false => exact judge_eqn b A c B g m most next L w hT hL hB hl hV hP h2 hm
        · exact judge_gt b A c B g m most next L w hT hL hB hl hV hP (by omega)
  · exact judge_no b A c B g m most next L w hT hL hB hl hV
end Go.Proofs.Ytofakehnadpebaa
