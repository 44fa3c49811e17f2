/-
  The program's FileEntry.
-/
import Derived.Test.YtmpojjlpopimfaaGreatJ2
import Derived.Test.YtmpojjlpopimfaaGreatEntJ
namespace Go.Proofs.YtmpojjlpopimfaaGreat
open Go.RowKit Go.Maps
set_option linter.unusedVariables false
attribute [local go_sem ↓] Go.wp_at_zero Go.wp_at_succ


end Go.Proofs.YtmpojjlpopimfaaGreat
