/-
  The program's FileEntry.
-/
import Derived.Test.YtjcjdedkedafbaaGreatJ2
import Derived.Test.YtjcjdedkedafbaaGreatEntJ
namespace Go.Proofs.YtjcjdedkedafbaaGreat
open Go.RowKit Go.Maps
set_option linter.unusedVariables false
attribute [local go_sem ↓] Go.wp_at_zero Go.wp_at_succ


end Go.Proofs.YtjcjdedkedafbaaGreat
