/-
  The model's PutEntry.
-/
import Derived.Test.YtcnoabkpilmanaaEntP
namespace Go.Proofs.Ytcnoabkpilmanaa
open Go.RowKit Go.Maps
set_option linter.unusedVariables false

/-- What PutEntry answers. -/
def putCode (es : List En) (e : En) : Int :=
  if layFault es = 0 then (if entFault e = 0 then (if homeE es e.path then (if 12 < (putE es e).length then 2 else 0) else 9) else entFault e) else layFault es
def putList (es : List En) (e : En) : List En := if putCode es e = 0 then putE es e else []


end Go.Proofs.Ytcnoabkpilmanaa
