/-
  No cell of these rows narrows 'for every input' (looked for: loops, veiled, ifaces, maps, wideKeys, modest, calm, conditions, laid).
  DERIVED. THE GIVEN ROWS OF THIS SEAT. 6 by the template 'for every input the law returns true; each argument reads behind the call as it read before'; 0 by the template 'total and deterministic' (their statements: YtnlkkokdcacoaajTotals.lean).
  GIVEN WITH THE SEED: the statements are not yours to turn. If you find one false, say at which input.
  Laid BY PROGRAM, IN A SANDBOX (cutbox-rows.mjs): the forced cells as the released guide's own fill.sh prints them over the translation 14cd8f4fbebb1c70… (all of the seat's roots in one cut). By AI agents, Wed Nov 11 2026. No macro, syntax, notation, axiom, sorry.
-/
import Derived.Test.YtnlkkokdcacoaajChecked
import GoSem.Claim
import GoSem.ClaimJoined
import GoSem.ClaimMapViews
import Derived.JoinedTies
import Derived.KernelRfl
namespace Go.Proofs.Ytnlkkokdcacoaaj
/- THE CELL 'sum', in the pinned program and in every row, IS THE sha256 OF THE DUMP (.gsa) THAT YtnlkkokdcacoaajProg.lean LOADS. Nothing in Lean hashes anything: it is a label: what it is worth is what the hold of that sum in a sandbox is worth. -/
noncomputable def Try.pinned : Pinned := { name := "ytnlkkokdcacoaaj", sum := "14cd8f4fbebb1c70e9211ef5d39ccfbb6299176b547ca0fa411a315a9238351b", checked := Try.checked }
namespace Rows
def none {H : Type} : Left H := { results := [], args := [] }

/-- 'laws.FnExactEntryFault': WHATEVER THE INPUT: true; the input reads as it did. -/
def fnExactEntryFaultSpec : ChangeSpec := { name := "fnExactEntryFault", fn := fun _ => fun
  | [d] => { results := [.lit (.bool true)], args := [d] }
  | _ => none }
def fnExactEntryFaultRow : OpenClaim := { program := "ytnlkkokdcacoaaj", sum := "14cd8f4fbebb1c70e9211ef5d39ccfbb6299176b547ca0fa411a315a9238351b", func := "loop.example/g00299/laws.FnExactEntryFault", spec := "fnExactEntryFault", inPlace := ["internal/bytealg.IndexByteString", "internal/bytealg.IndexString"], unfollowed := true, recurses := true, named := ["internal/bytealg.MaxLen"], apart := false }
def FnExactEntryFaultSaid : Prop := fnExactEntryFaultRow.holds Try.pinned (OpenSpec.ofChange fnExactEntryFaultSpec)

/-- ITS FALSE NEIGHBOUR: 'it returns false'. Refute it at one input. -/
def fnExactEntryFaultWrong : ChangeSpec := { name := "fnExactEntryFault", fn := fun _ => fun
  | [d] => { results := [.lit (.bool false)], args := [d] }
  | _ => none }
def FnExactEntryFaultWrongFalsely : Prop := fnExactEntryFaultRow.holds Try.pinned (OpenSpec.ofChange fnExactEntryFaultWrong)

/-- 'laws.FnExactLayerFault': WHATEVER THE INPUT: true; the input reads as it did. -/
def fnExactLayerFaultSpec : ChangeSpec := { name := "fnExactLayerFault", fn := fun _ => fun
  | [d] => { results := [.lit (.bool true)], args := [d] }
  | _ => none }
def fnExactLayerFaultRow : OpenClaim := { program := "ytnlkkokdcacoaaj", sum := "14cd8f4fbebb1c70e9211ef5d39ccfbb6299176b547ca0fa411a315a9238351b", func := "loop.example/g00299/laws.FnExactLayerFault", spec := "fnExactLayerFault", inPlace := ["internal/bytealg.IndexByteString", "internal/bytealg.IndexString"], unfollowed := true, recurses := true, named := ["internal/bytealg.MaxLen"], apart := false }
def FnExactLayerFaultSaid : Prop := fnExactLayerFaultRow.holds Try.pinned (OpenSpec.ofChange fnExactLayerFaultSpec)

/-- ITS FALSE NEIGHBOUR: 'it returns false'. Refute it at one input. -/
def fnExactLayerFaultWrong : ChangeSpec := { name := "fnExactLayerFault", fn := fun _ => fun
  | [d] => { results := [.lit (.bool false)], args := [d] }
  | _ => none }
def FnExactLayerFaultWrongFalsely : Prop := fnExactLayerFaultRow.holds Try.pinned (OpenSpec.ofChange fnExactLayerFaultWrong)

/-- 'laws.FnExactEntryAt': WHATEVER THE INPUT: true; the input reads as it did. -/
def fnExactEntryAtSpec : ChangeSpec := { name := "fnExactEntryAt", fn := fun _ => fun
  | [d1, d2] => { results := [.lit (.bool true)], args := [d1, d2] }
  | _ => none }
def fnExactEntryAtRow : OpenClaim := { program := "ytnlkkokdcacoaaj", sum := "14cd8f4fbebb1c70e9211ef5d39ccfbb6299176b547ca0fa411a315a9238351b", func := "loop.example/g00299/laws.FnExactEntryAt", spec := "fnExactEntryAt", inPlace := ["internal/bytealg.IndexByteString", "internal/bytealg.IndexString"], unfollowed := true, recurses := true, named := ["internal/bytealg.MaxLen"], apart := false }
def FnExactEntryAtSaid : Prop := fnExactEntryAtRow.holds Try.pinned (OpenSpec.ofChange fnExactEntryAtSpec)

/-- ITS FALSE NEIGHBOUR: 'it returns false'. Refute it at one input. -/
def fnExactEntryAtWrong : ChangeSpec := { name := "fnExactEntryAt", fn := fun _ => fun
  | [d1, d2] => { results := [.lit (.bool false)], args := [d1, d2] }
  | _ => none }
def FnExactEntryAtWrongFalsely : Prop := fnExactEntryAtRow.holds Try.pinned (OpenSpec.ofChange fnExactEntryAtWrong)

/-- 'laws.FnExactFileEntry': WHATEVER THE INPUT: true; the input reads as it did. -/
def fnExactFileEntrySpec : ChangeSpec := { name := "fnExactFileEntry", fn := fun _ => fun
  | [d1, d2] => { results := [.lit (.bool true)], args := [d1, d2] }
  | _ => none }
def fnExactFileEntryRow : OpenClaim := { program := "ytnlkkokdcacoaaj", sum := "14cd8f4fbebb1c70e9211ef5d39ccfbb6299176b547ca0fa411a315a9238351b", func := "loop.example/g00299/laws.FnExactFileEntry", spec := "fnExactFileEntry", inPlace := ["internal/bytealg.IndexByteString", "internal/bytealg.IndexString"], unfollowed := true, recurses := true, named := ["internal/bytealg.MaxLen"], apart := false }
def FnExactFileEntrySaid : Prop := fnExactFileEntryRow.holds Try.pinned (OpenSpec.ofChange fnExactFileEntrySpec)

/-- ITS FALSE NEIGHBOUR: 'it returns false'. Refute it at one input. -/
def fnExactFileEntryWrong : ChangeSpec := { name := "fnExactFileEntry", fn := fun _ => fun
  | [d1, d2] => { results := [.lit (.bool false)], args := [d1, d2] }
  | _ => none }
def FnExactFileEntryWrongFalsely : Prop := fnExactFileEntryRow.holds Try.pinned (OpenSpec.ofChange fnExactFileEntryWrong)

/-- 'laws.FnExactPutEntry': WHATEVER THE INPUT: true; the input reads as it did. -/
def fnExactPutEntrySpec : ChangeSpec := { name := "fnExactPutEntry", fn := fun _ => fun
  | [d1, d2] => { results := [.lit (.bool true)], args := [d1, d2] }
  | _ => none }
def fnExactPutEntryRow : OpenClaim := { program := "ytnlkkokdcacoaaj", sum := "14cd8f4fbebb1c70e9211ef5d39ccfbb6299176b547ca0fa411a315a9238351b", func := "loop.example/g00299/laws.FnExactPutEntry", spec := "fnExactPutEntry", inPlace := ["internal/bytealg.IndexByteString", "internal/bytealg.IndexString"], unfollowed := true, recurses := true, named := ["internal/bytealg.MaxLen"], apart := false }
def FnExactPutEntrySaid : Prop := fnExactPutEntryRow.holds Try.pinned (OpenSpec.ofChange fnExactPutEntrySpec)

/-- ITS FALSE NEIGHBOUR: 'it returns false'. Refute it at one input. -/
def fnExactPutEntryWrong : ChangeSpec := { name := "fnExactPutEntry", fn := fun _ => fun
  | [d1, d2] => { results := [.lit (.bool false)], args := [d1, d2] }
  | _ => none }
def FnExactPutEntryWrongFalsely : Prop := fnExactPutEntryRow.holds Try.pinned (OpenSpec.ofChange fnExactPutEntryWrong)

/-- 'laws.FnExactDropBelow': WHATEVER THE INPUT: true; the input reads as it did. -/
def fnExactDropBelowSpec : ChangeSpec := { name := "fnExactDropBelow", fn := fun _ => fun
  | [d1, d2] => { results := [.lit (.bool true)], args := [d1, d2] }
  | _ => none }
def fnExactDropBelowRow : OpenClaim := { program := "ytnlkkokdcacoaaj", sum := "14cd8f4fbebb1c70e9211ef5d39ccfbb6299176b547ca0fa411a315a9238351b", func := "loop.example/g00299/laws.FnExactDropBelow", spec := "fnExactDropBelow", inPlace := ["internal/bytealg.IndexByteString", "internal/bytealg.IndexString"], unfollowed := true, recurses := true, named := ["internal/bytealg.MaxLen"], apart := false }
def FnExactDropBelowSaid : Prop := fnExactDropBelowRow.holds Try.pinned (OpenSpec.ofChange fnExactDropBelowSpec)

/-- ITS FALSE NEIGHBOUR: 'it returns false'. Refute it at one input. -/
def fnExactDropBelowWrong : ChangeSpec := { name := "fnExactDropBelow", fn := fun _ => fun
  | [d1, d2] => { results := [.lit (.bool false)], args := [d1, d2] }
  | _ => none }
def FnExactDropBelowWrongFalsely : Prop := fnExactDropBelowRow.holds Try.pinned (OpenSpec.ofChange fnExactDropBelowWrong)

/- THE SECOND FORM. 'bulk': how many values and letters a reading holds, each counted each time it is reached (what is shared counts as often as it is met; a slice's spare places count too). A statement '..UptoSaid' is the law's where the arguments, and the package variables that the reading takes, are together of bulk at most 1048576: NARROWER than '..Said'. Prove '..Said' where nothing that the law and all that it calls make is longer than what came in: it says more and counts as full. Else prove '..UptoSaid'. A law counts once. -/
mutual
def uptoBulk {H : Type} : DataW H → Nat
  | .lit (.string bytes) => bytes.length + 1
  | .lit _ => 1
  | .nil => 1
  | .ptr d => uptoBulk d + 1
  | .slice elems spare => uptoBulkAll elems + uptoBulkAll spare + 1
  | .agg parts => uptoBulkAll parts + 1
  | .iface _ d => uptoBulk d + 1
  | .map entries => uptoBulkEntries entries + 1
  | .held _ => 1
def uptoBulkAll {H : Type} : List (DataW H) → Nat
  | [] => 0
  | d :: r => uptoBulk d + uptoBulkAll r
def uptoBulkEntries {H : Type} : List (Lit × DataW H) → Nat
  | [] => 0
  | x :: r => uptoBulkEntry x + uptoBulkEntries r
def uptoBulkEntry {H : Type} : Lit × DataW H → Nat
  | (.string bytes, d) => bytes.length + uptoBulk d + 1
  | (_, d) => uptoBulk d + 1
 end
def uptoSmall : (H : Type) → List (DataW H) → Bool := fun _ ds => decide (uptoBulkAll ds ≤ 1048576)
def OpenSpec.upto (s : _root_.Go.ChangeSpec) : _root_.Go.OpenSpec := { _root_.Go.OpenSpec.ofChange s with cond := some uptoSmall }

/-- 'laws.FnExactEntryFault', WHERE WHAT IT READS IS OF BULK AT MOST 1048576: true; the input reads as it did. -/
def fnExactEntryFaultUptoRow : OpenClaim := { program := "ytnlkkokdcacoaaj", sum := "14cd8f4fbebb1c70e9211ef5d39ccfbb6299176b547ca0fa411a315a9238351b", func := "loop.example/g00299/laws.FnExactEntryFault", spec := "fnExactEntryFault", inPlace := ["internal/bytealg.IndexByteString", "internal/bytealg.IndexString"], unfollowed := true, recurses := true, named := ["internal/bytealg.MaxLen"], apart := false, narrowed := true }
def FnExactEntryFaultUptoSaid : Prop := fnExactEntryFaultUptoRow.holds Try.pinned (OpenSpec.upto fnExactEntryFaultSpec)

/-- 'laws.FnExactLayerFault', WHERE WHAT IT READS IS OF BULK AT MOST 1048576: true; the input reads as it did. -/
def fnExactLayerFaultUptoRow : OpenClaim := { program := "ytnlkkokdcacoaaj", sum := "14cd8f4fbebb1c70e9211ef5d39ccfbb6299176b547ca0fa411a315a9238351b", func := "loop.example/g00299/laws.FnExactLayerFault", spec := "fnExactLayerFault", inPlace := ["internal/bytealg.IndexByteString", "internal/bytealg.IndexString"], unfollowed := true, recurses := true, named := ["internal/bytealg.MaxLen"], apart := false, narrowed := true }
def FnExactLayerFaultUptoSaid : Prop := fnExactLayerFaultUptoRow.holds Try.pinned (OpenSpec.upto fnExactLayerFaultSpec)

/-- 'laws.FnExactEntryAt', WHERE WHAT IT READS IS OF BULK AT MOST 1048576: true; the input reads as it did. -/
def fnExactEntryAtUptoRow : OpenClaim := { program := "ytnlkkokdcacoaaj", sum := "14cd8f4fbebb1c70e9211ef5d39ccfbb6299176b547ca0fa411a315a9238351b", func := "loop.example/g00299/laws.FnExactEntryAt", spec := "fnExactEntryAt", inPlace := ["internal/bytealg.IndexByteString", "internal/bytealg.IndexString"], unfollowed := true, recurses := true, named := ["internal/bytealg.MaxLen"], apart := false, narrowed := true }
def FnExactEntryAtUptoSaid : Prop := fnExactEntryAtUptoRow.holds Try.pinned (OpenSpec.upto fnExactEntryAtSpec)

/-- 'laws.FnExactFileEntry', WHERE WHAT IT READS IS OF BULK AT MOST 1048576: true; the input reads as it did. -/
def fnExactFileEntryUptoRow : OpenClaim := { program := "ytnlkkokdcacoaaj", sum := "14cd8f4fbebb1c70e9211ef5d39ccfbb6299176b547ca0fa411a315a9238351b", func := "loop.example/g00299/laws.FnExactFileEntry", spec := "fnExactFileEntry", inPlace := ["internal/bytealg.IndexByteString", "internal/bytealg.IndexString"], unfollowed := true, recurses := true, named := ["internal/bytealg.MaxLen"], apart := false, narrowed := true }
def FnExactFileEntryUptoSaid : Prop := fnExactFileEntryUptoRow.holds Try.pinned (OpenSpec.upto fnExactFileEntrySpec)

/-- 'laws.FnExactPutEntry', WHERE WHAT IT READS IS OF BULK AT MOST 1048576: true; the input reads as it did. -/
def fnExactPutEntryUptoRow : OpenClaim := { program := "ytnlkkokdcacoaaj", sum := "14cd8f4fbebb1c70e9211ef5d39ccfbb6299176b547ca0fa411a315a9238351b", func := "loop.example/g00299/laws.FnExactPutEntry", spec := "fnExactPutEntry", inPlace := ["internal/bytealg.IndexByteString", "internal/bytealg.IndexString"], unfollowed := true, recurses := true, named := ["internal/bytealg.MaxLen"], apart := false, narrowed := true }
def FnExactPutEntryUptoSaid : Prop := fnExactPutEntryUptoRow.holds Try.pinned (OpenSpec.upto fnExactPutEntrySpec)

/-- 'laws.FnExactDropBelow', WHERE WHAT IT READS IS OF BULK AT MOST 1048576: true; the input reads as it did. -/
def fnExactDropBelowUptoRow : OpenClaim := { program := "ytnlkkokdcacoaaj", sum := "14cd8f4fbebb1c70e9211ef5d39ccfbb6299176b547ca0fa411a315a9238351b", func := "loop.example/g00299/laws.FnExactDropBelow", spec := "fnExactDropBelow", inPlace := ["internal/bytealg.IndexByteString", "internal/bytealg.IndexString"], unfollowed := true, recurses := true, named := ["internal/bytealg.MaxLen"], apart := false, narrowed := true }
def FnExactDropBelowUptoSaid : Prop := fnExactDropBelowUptoRow.holds Try.pinned (OpenSpec.upto fnExactDropBelowSpec)

end Rows
end Go.Proofs.Ytnlkkokdcacoaaj
