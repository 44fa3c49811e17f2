/-
  The program's FileEntry.
-/
import Derived.Test.YtjkmbicedbdifaaGreatJ2
import Derived.Test.YtjkmbicedbdifaaGreatEntJ
namespace Go.Proofs.YtjkmbicedbdifaaGreat
open Go.RowKit Go.Maps
set_option linter.unusedVariables false
attribute [local go_sem ↓] Go.wp_at_zero Go.wp_at_succ


end Go.Proofs.YtjkmbicedbdifaaGreat
