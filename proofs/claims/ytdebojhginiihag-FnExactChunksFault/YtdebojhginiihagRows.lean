/-
  No cell of these rows narrows 'for every input' (looked for: loops, veiled, ifaces, maps, wideKeys, modest, calm, conditions, laid).
  DERIVED. THE GIVEN ROWS OF THIS SEAT. 6 by the template 'for every input the law returns true; each argument reads behind the call as it read before'; 0 by the template 'total and deterministic' (their statements: YtdebojhginiihagTotals.lean).
  GIVEN WITH THE SEED: the statements are not yours to turn. If you find one false, say at which input.
  Laid BY PROGRAM, IN A SANDBOX (cutbox-rows.mjs): the forced cells as the released guide's own fill.sh prints them over the translation da9b90d3ae4399cc… (all of the seat's roots in one cut). By AI agents, Wed Nov 11 2026. No macro, syntax, notation, axiom, sorry.
-/
import Derived.Test.YtdebojhginiihagChecked
import GoSem.Claim
import GoSem.ClaimJoined
import GoSem.ClaimMapViews
import Derived.JoinedTies
import Derived.KernelRfl
namespace Go.Proofs.Ytdebojhginiihag
/- THE CELL 'sum', in the pinned program and in every row, IS THE sha256 OF THE DUMP (.gsa) THAT YtdebojhginiihagProg.lean LOADS. Nothing in Lean hashes anything: it is a label: what it is worth is what the hold of that sum in a sandbox is worth. -/
noncomputable def Try.pinned : Pinned := { name := "ytdebojhginiihag", sum := "da9b90d3ae4399cc677412ab48e9934aa336b802bf26e4a0cc2f3fd765c04b16", checked := Try.checked }
namespace Rows
def none {H : Type} : Left H := { results := [], args := [] }

/-- 'laws.FnExactIsDigest': WHATEVER THE INPUT: true; the input reads as it did. -/
def fnExactIsDigestSpec : ChangeSpec := { name := "fnExactIsDigest", fn := fun _ => fun
  | [d] => { results := [.lit (.bool true)], args := [d] }
  | _ => none }
def fnExactIsDigestRow : OpenClaim := { program := "ytdebojhginiihag", sum := "da9b90d3ae4399cc677412ab48e9934aa336b802bf26e4a0cc2f3fd765c04b16", func := "loop.example/g00299/laws.FnExactIsDigest", spec := "fnExactIsDigest", apart := false }
def FnExactIsDigestSaid : Prop := fnExactIsDigestRow.holds Try.pinned (OpenSpec.ofChange fnExactIsDigestSpec)

/-- ITS FALSE NEIGHBOUR: 'it returns false'. Refute it at one input. -/
def fnExactIsDigestWrong : ChangeSpec := { name := "fnExactIsDigest", fn := fun _ => fun
  | [d] => { results := [.lit (.bool false)], args := [d] }
  | _ => none }
def FnExactIsDigestWrongFalsely : Prop := fnExactIsDigestRow.holds Try.pinned (OpenSpec.ofChange fnExactIsDigestWrong)

/-- 'laws.FnExactCutChunks': WHATEVER THE INPUT: true; the input reads as it did. -/
def fnExactCutChunksSpec : ChangeSpec := { name := "fnExactCutChunks", fn := fun _ => fun
  | [d] => { results := [.lit (.bool true)], args := [d] }
  | _ => none }
def fnExactCutChunksRow : OpenClaim := { program := "ytdebojhginiihag", sum := "da9b90d3ae4399cc677412ab48e9934aa336b802bf26e4a0cc2f3fd765c04b16", func := "loop.example/g00299/laws.FnExactCutChunks", spec := "fnExactCutChunks", apart := false }
def FnExactCutChunksSaid : Prop := fnExactCutChunksRow.holds Try.pinned (OpenSpec.ofChange fnExactCutChunksSpec)

/-- ITS FALSE NEIGHBOUR: 'it returns false'. Refute it at one input. -/
def fnExactCutChunksWrong : ChangeSpec := { name := "fnExactCutChunks", fn := fun _ => fun
  | [d] => { results := [.lit (.bool false)], args := [d] }
  | _ => none }
def FnExactCutChunksWrongFalsely : Prop := fnExactCutChunksRow.holds Try.pinned (OpenSpec.ofChange fnExactCutChunksWrong)

/-- 'laws.FnExactDigestsOf': WHATEVER THE INPUT: true; the input reads as it did. -/
def fnExactDigestsOfSpec : ChangeSpec := { name := "fnExactDigestsOf", fn := fun _ => fun
  | [d] => { results := [.lit (.bool true)], args := [d] }
  | _ => none }
def fnExactDigestsOfRow : OpenClaim := { program := "ytdebojhginiihag", sum := "da9b90d3ae4399cc677412ab48e9934aa336b802bf26e4a0cc2f3fd765c04b16", func := "loop.example/g00299/laws.FnExactDigestsOf", spec := "fnExactDigestsOf", apart := false }
def FnExactDigestsOfSaid : Prop := fnExactDigestsOfRow.holds Try.pinned (OpenSpec.ofChange fnExactDigestsOfSpec)

/-- ITS FALSE NEIGHBOUR: 'it returns false'. Refute it at one input. -/
def fnExactDigestsOfWrong : ChangeSpec := { name := "fnExactDigestsOf", fn := fun _ => fun
  | [d] => { results := [.lit (.bool false)], args := [d] }
  | _ => none }
def FnExactDigestsOfWrongFalsely : Prop := fnExactDigestsOfRow.holds Try.pinned (OpenSpec.ofChange fnExactDigestsOfWrong)

/-- 'laws.FnExactHexText': WHATEVER THE INPUT: true; the input reads as it did. -/
def fnExactHexTextSpec : ChangeSpec := { name := "fnExactHexText", fn := fun _ => fun
  | [d] => { results := [.lit (.bool true)], args := [d] }
  | _ => none }
def fnExactHexTextRow : OpenClaim := { program := "ytdebojhginiihag", sum := "da9b90d3ae4399cc677412ab48e9934aa336b802bf26e4a0cc2f3fd765c04b16", func := "loop.example/g00299/laws.FnExactHexText", spec := "fnExactHexText", apart := false }
def FnExactHexTextSaid : Prop := fnExactHexTextRow.holds Try.pinned (OpenSpec.ofChange fnExactHexTextSpec)

/-- ITS FALSE NEIGHBOUR: 'it returns false'. Refute it at one input. -/
def fnExactHexTextWrong : ChangeSpec := { name := "fnExactHexText", fn := fun _ => fun
  | [d] => { results := [.lit (.bool false)], args := [d] }
  | _ => none }
def FnExactHexTextWrongFalsely : Prop := fnExactHexTextRow.holds Try.pinned (OpenSpec.ofChange fnExactHexTextWrong)

/-- 'laws.FnExactParseHex': WHATEVER THE INPUT: true; the input reads as it did. -/
def fnExactParseHexSpec : ChangeSpec := { name := "fnExactParseHex", fn := fun _ => fun
  | [d] => { results := [.lit (.bool true)], args := [d] }
  | _ => none }
def fnExactParseHexRow : OpenClaim := { program := "ytdebojhginiihag", sum := "da9b90d3ae4399cc677412ab48e9934aa336b802bf26e4a0cc2f3fd765c04b16", func := "loop.example/g00299/laws.FnExactParseHex", spec := "fnExactParseHex", inPlace := ["internal/bytealg.IndexByteString"], apart := false }
def FnExactParseHexSaid : Prop := fnExactParseHexRow.holds Try.pinned (OpenSpec.ofChange fnExactParseHexSpec)

/-- ITS FALSE NEIGHBOUR: 'it returns false'. Refute it at one input. -/
def fnExactParseHexWrong : ChangeSpec := { name := "fnExactParseHex", fn := fun _ => fun
  | [d] => { results := [.lit (.bool false)], args := [d] }
  | _ => none }
def FnExactParseHexWrongFalsely : Prop := fnExactParseHexRow.holds Try.pinned (OpenSpec.ofChange fnExactParseHexWrong)

/-- 'laws.FnExactChunksFault': WHATEVER THE INPUT: true; the input reads as it did. -/
def fnExactChunksFaultSpec : ChangeSpec := { name := "fnExactChunksFault", fn := fun _ => fun
  | [d] => { results := [.lit (.bool true)], args := [d] }
  | _ => none }
def fnExactChunksFaultRow : OpenClaim := { program := "ytdebojhginiihag", sum := "da9b90d3ae4399cc677412ab48e9934aa336b802bf26e4a0cc2f3fd765c04b16", func := "loop.example/g00299/laws.FnExactChunksFault", spec := "fnExactChunksFault", apart := false }
def FnExactChunksFaultSaid : Prop := fnExactChunksFaultRow.holds Try.pinned (OpenSpec.ofChange fnExactChunksFaultSpec)

/-- ITS FALSE NEIGHBOUR: 'it returns false'. Refute it at one input. -/
def fnExactChunksFaultWrong : ChangeSpec := { name := "fnExactChunksFault", fn := fun _ => fun
  | [d] => { results := [.lit (.bool false)], args := [d] }
  | _ => none }
def FnExactChunksFaultWrongFalsely : Prop := fnExactChunksFaultRow.holds Try.pinned (OpenSpec.ofChange fnExactChunksFaultWrong)

/- THE SECOND FORM. 'bulk': how many values and letters a reading holds, each counted each time it is reached (what is shared counts as often as it is met; a slice's spare places count too). A statement '..UptoSaid' is the law's where the arguments, and the package variables that the reading takes, are together of bulk at most 1048576: NARROWER than '..Said'. Prove '..Said' where nothing that the law and all that it calls make is longer than what came in: it says more and counts as full. Else prove '..UptoSaid'. A law counts once. -/
mutual
def uptoBulk {H : Type} : DataW H → Nat
  | .lit (.string bytes) => bytes.length + 1
  | .lit _ => 1
  | .nil => 1
  | .ptr d => uptoBulk d + 1
  | .slice elems spare => uptoBulkAll elems + uptoBulkAll spare + 1
  | .agg parts => uptoBulkAll parts + 1
  | .iface _ d => uptoBulk d + 1
  | .map entries => uptoBulkEntries entries + 1
  | .held _ => 1
def uptoBulkAll {H : Type} : List (DataW H) → Nat
  | [] => 0
  | d :: r => uptoBulk d + uptoBulkAll r
def uptoBulkEntries {H : Type} : List (Lit × DataW H) → Nat
  | [] => 0
  | x :: r => uptoBulkEntry x + uptoBulkEntries r
def uptoBulkEntry {H : Type} : Lit × DataW H → Nat
  | (.string bytes, d) => bytes.length + uptoBulk d + 1
  | (_, d) => uptoBulk d + 1
 end
def uptoSmall : (H : Type) → List (DataW H) → Bool := fun _ ds => decide (uptoBulkAll ds ≤ 1048576)
def OpenSpec.upto (s : _root_.Go.ChangeSpec) : _root_.Go.OpenSpec := { _root_.Go.OpenSpec.ofChange s with cond := some uptoSmall }

/-- 'laws.FnExactIsDigest', WHERE WHAT IT READS IS OF BULK AT MOST 1048576: true; the input reads as it did. -/
def fnExactIsDigestUptoRow : OpenClaim := { program := "ytdebojhginiihag", sum := "da9b90d3ae4399cc677412ab48e9934aa336b802bf26e4a0cc2f3fd765c04b16", func := "loop.example/g00299/laws.FnExactIsDigest", spec := "fnExactIsDigest", apart := false, narrowed := true }
def FnExactIsDigestUptoSaid : Prop := fnExactIsDigestUptoRow.holds Try.pinned (OpenSpec.upto fnExactIsDigestSpec)

/-- 'laws.FnExactCutChunks', WHERE WHAT IT READS IS OF BULK AT MOST 1048576: true; the input reads as it did. -/
def fnExactCutChunksUptoRow : OpenClaim := { program := "ytdebojhginiihag", sum := "da9b90d3ae4399cc677412ab48e9934aa336b802bf26e4a0cc2f3fd765c04b16", func := "loop.example/g00299/laws.FnExactCutChunks", spec := "fnExactCutChunks", apart := false, narrowed := true }
def FnExactCutChunksUptoSaid : Prop := fnExactCutChunksUptoRow.holds Try.pinned (OpenSpec.upto fnExactCutChunksSpec)

/-- 'laws.FnExactDigestsOf', WHERE WHAT IT READS IS OF BULK AT MOST 1048576: true; the input reads as it did. -/
def fnExactDigestsOfUptoRow : OpenClaim := { program := "ytdebojhginiihag", sum := "da9b90d3ae4399cc677412ab48e9934aa336b802bf26e4a0cc2f3fd765c04b16", func := "loop.example/g00299/laws.FnExactDigestsOf", spec := "fnExactDigestsOf", apart := false, narrowed := true }
def FnExactDigestsOfUptoSaid : Prop := fnExactDigestsOfUptoRow.holds Try.pinned (OpenSpec.upto fnExactDigestsOfSpec)

/-- 'laws.FnExactHexText', WHERE WHAT IT READS IS OF BULK AT MOST 1048576: true; the input reads as it did. -/
def fnExactHexTextUptoRow : OpenClaim := { program := "ytdebojhginiihag", sum := "da9b90d3ae4399cc677412ab48e9934aa336b802bf26e4a0cc2f3fd765c04b16", func := "loop.example/g00299/laws.FnExactHexText", spec := "fnExactHexText", apart := false, narrowed := true }
def FnExactHexTextUptoSaid : Prop := fnExactHexTextUptoRow.holds Try.pinned (OpenSpec.upto fnExactHexTextSpec)

/-- 'laws.FnExactParseHex', WHERE WHAT IT READS IS OF BULK AT MOST 1048576: true; the input reads as it did. -/
def fnExactParseHexUptoRow : OpenClaim := { program := "ytdebojhginiihag", sum := "da9b90d3ae4399cc677412ab48e9934aa336b802bf26e4a0cc2f3fd765c04b16", func := "loop.example/g00299/laws.FnExactParseHex", spec := "fnExactParseHex", inPlace := ["internal/bytealg.IndexByteString"], apart := false, narrowed := true }
def FnExactParseHexUptoSaid : Prop := fnExactParseHexUptoRow.holds Try.pinned (OpenSpec.upto fnExactParseHexSpec)

/-- 'laws.FnExactChunksFault', WHERE WHAT IT READS IS OF BULK AT MOST 1048576: true; the input reads as it did. -/
def fnExactChunksFaultUptoRow : OpenClaim := { program := "ytdebojhginiihag", sum := "da9b90d3ae4399cc677412ab48e9934aa336b802bf26e4a0cc2f3fd765c04b16", func := "loop.example/g00299/laws.FnExactChunksFault", spec := "fnExactChunksFault", apart := false, narrowed := true }
def FnExactChunksFaultUptoSaid : Prop := fnExactChunksFaultUptoRow.holds Try.pinned (OpenSpec.upto fnExactChunksFaultSpec)

end Rows
end Go.Proofs.Ytdebojhginiihag
