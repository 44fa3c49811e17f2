/-
  No cell of these rows narrows 'for every input' (looked for: loops, veiled, ifaces, maps, wideKeys, modest, calm, conditions, laid).
  DERIVED. THE GIVEN ROWS OF THIS SEAT. 6 by the template 'for every input the law returns true; each argument reads behind the call as it read before'; 0 by the template 'total and deterministic' (their statements: YtdebojhginiihahTotals.lean).
  GIVEN WITH THE SEED: the statements are not yours to turn. If you find one false, say at which input.
  Laid BY PROGRAM, IN A SANDBOX (cutbox-rows.mjs): the forced cells as the released guide's own fill.sh prints them over the translation 88a98f889a38cb93… (all of the seat's roots in one cut). By AI agents, Wed Nov 11 2026. No macro, syntax, notation, axiom, sorry.
-/
import Derived.Test.YtdebojhginiihahChecked
import GoSem.Claim
import GoSem.ClaimJoined
import GoSem.ClaimMapViews
import Derived.JoinedTies
import Derived.KernelRfl
namespace Go.Proofs.Ytdebojhginiihah
/- THE CELL 'sum', in the pinned program and in every row, IS THE sha256 OF THE DUMP (.gsa) THAT YtdebojhginiihahProg.lean LOADS. Nothing in Lean hashes anything: it is a label: what it is worth is what the hold of that sum in a sandbox is worth. -/
noncomputable def Try.pinned : Pinned := { name := "ytdebojhginiihah", sum := "88a98f889a38cb939f08101f2fb404785d9c8fb768afb580a0dd6648352968a3", checked := Try.checked }
namespace Rows
def none {H : Type} : Left H := { results := [], args := [] }

/-- 'laws.FnExactPutChunk': WHATEVER THE INPUT: true; the input reads as it did. -/
def fnExactPutChunkSpec : ChangeSpec := { name := "fnExactPutChunk", fn := fun _ => fun
  | [d1, d2, d3] => { results := [.lit (.bool true)], args := [d1, d2, d3] }
  | _ => none }
def fnExactPutChunkRow : OpenClaim := { program := "ytdebojhginiihah", sum := "88a98f889a38cb939f08101f2fb404785d9c8fb768afb580a0dd6648352968a3", func := "loop.example/g00299/laws.FnExactPutChunk", spec := "fnExactPutChunk", unfollowed := true, recurses := true, apart := false }
def FnExactPutChunkSaid : Prop := fnExactPutChunkRow.holds Try.pinned (OpenSpec.ofChange fnExactPutChunkSpec)

/-- ITS FALSE NEIGHBOUR: 'it returns false'. Refute it at one input. -/
def fnExactPutChunkWrong : ChangeSpec := { name := "fnExactPutChunk", fn := fun _ => fun
  | [d1, d2, d3] => { results := [.lit (.bool false)], args := [d1, d2, d3] }
  | _ => none }
def FnExactPutChunkWrongFalsely : Prop := fnExactPutChunkRow.holds Try.pinned (OpenSpec.ofChange fnExactPutChunkWrong)

/-- 'laws.FnExactChunkFor': WHATEVER THE INPUT: true; the input reads as it did. -/
def fnExactChunkForSpec : ChangeSpec := { name := "fnExactChunkFor", fn := fun _ => fun
  | [d1, d2] => { results := [.lit (.bool true)], args := [d1, d2] }
  | _ => none }
def fnExactChunkForRow : OpenClaim := { program := "ytdebojhginiihah", sum := "88a98f889a38cb939f08101f2fb404785d9c8fb768afb580a0dd6648352968a3", func := "loop.example/g00299/laws.FnExactChunkFor", spec := "fnExactChunkFor", apart := false }
def FnExactChunkForSaid : Prop := fnExactChunkForRow.holds Try.pinned (OpenSpec.ofChange fnExactChunkForSpec)

/-- ITS FALSE NEIGHBOUR: 'it returns false'. Refute it at one input. -/
def fnExactChunkForWrong : ChangeSpec := { name := "fnExactChunkFor", fn := fun _ => fun
  | [d1, d2] => { results := [.lit (.bool false)], args := [d1, d2] }
  | _ => none }
def FnExactChunkForWrongFalsely : Prop := fnExactChunkForRow.holds Try.pinned (OpenSpec.ofChange fnExactChunkForWrong)

/-- 'laws.FnExactDropChunk': WHATEVER THE INPUT: true; the input reads as it did. -/
def fnExactDropChunkSpec : ChangeSpec := { name := "fnExactDropChunk", fn := fun _ => fun
  | [d1, d2] => { results := [.lit (.bool true)], args := [d1, d2] }
  | _ => none }
def fnExactDropChunkRow : OpenClaim := { program := "ytdebojhginiihah", sum := "88a98f889a38cb939f08101f2fb404785d9c8fb768afb580a0dd6648352968a3", func := "loop.example/g00299/laws.FnExactDropChunk", spec := "fnExactDropChunk", unfollowed := true, recurses := true, apart := false }
def FnExactDropChunkSaid : Prop := fnExactDropChunkRow.holds Try.pinned (OpenSpec.ofChange fnExactDropChunkSpec)

/-- ITS FALSE NEIGHBOUR: 'it returns false'. Refute it at one input. -/
def fnExactDropChunkWrong : ChangeSpec := { name := "fnExactDropChunk", fn := fun _ => fun
  | [d1, d2] => { results := [.lit (.bool false)], args := [d1, d2] }
  | _ => none }
def FnExactDropChunkWrongFalsely : Prop := fnExactDropChunkRow.holds Try.pinned (OpenSpec.ofChange fnExactDropChunkWrong)

/-- 'laws.FnExactPutBytes': WHATEVER THE INPUT: true; the input reads as it did. -/
def fnExactPutBytesSpec : ChangeSpec := { name := "fnExactPutBytes", fn := fun _ => fun
  | [d1, d2] => { results := [.lit (.bool true)], args := [d1, d2] }
  | _ => none }
def fnExactPutBytesRow : OpenClaim := { program := "ytdebojhginiihah", sum := "88a98f889a38cb939f08101f2fb404785d9c8fb768afb580a0dd6648352968a3", func := "loop.example/g00299/laws.FnExactPutBytes", spec := "fnExactPutBytes", unfollowed := true, recurses := true, apart := false }
def FnExactPutBytesSaid : Prop := fnExactPutBytesRow.holds Try.pinned (OpenSpec.ofChange fnExactPutBytesSpec)

/-- ITS FALSE NEIGHBOUR: 'it returns false'. Refute it at one input. -/
def fnExactPutBytesWrong : ChangeSpec := { name := "fnExactPutBytes", fn := fun _ => fun
  | [d1, d2] => { results := [.lit (.bool false)], args := [d1, d2] }
  | _ => none }
def FnExactPutBytesWrongFalsely : Prop := fnExactPutBytesRow.holds Try.pinned (OpenSpec.ofChange fnExactPutBytesWrong)

/-- 'laws.FnExactJoinChunks': WHATEVER THE INPUT: true; the input reads as it did. -/
def fnExactJoinChunksSpec : ChangeSpec := { name := "fnExactJoinChunks", fn := fun _ => fun
  | [d1, d2] => { results := [.lit (.bool true)], args := [d1, d2] }
  | _ => none }
def fnExactJoinChunksRow : OpenClaim := { program := "ytdebojhginiihah", sum := "88a98f889a38cb939f08101f2fb404785d9c8fb768afb580a0dd6648352968a3", func := "loop.example/g00299/laws.FnExactJoinChunks", spec := "fnExactJoinChunks", apart := false }
def FnExactJoinChunksSaid : Prop := fnExactJoinChunksRow.holds Try.pinned (OpenSpec.ofChange fnExactJoinChunksSpec)

/-- ITS FALSE NEIGHBOUR: 'it returns false'. Refute it at one input. -/
def fnExactJoinChunksWrong : ChangeSpec := { name := "fnExactJoinChunks", fn := fun _ => fun
  | [d1, d2] => { results := [.lit (.bool false)], args := [d1, d2] }
  | _ => none }
def FnExactJoinChunksWrongFalsely : Prop := fnExactJoinChunksRow.holds Try.pinned (OpenSpec.ofChange fnExactJoinChunksWrong)

/-- 'laws.FnExactMissingOf': WHATEVER THE INPUT: true; the input reads as it did. -/
def fnExactMissingOfSpec : ChangeSpec := { name := "fnExactMissingOf", fn := fun _ => fun
  | [d1, d2] => { results := [.lit (.bool true)], args := [d1, d2] }
  | _ => none }
def fnExactMissingOfRow : OpenClaim := { program := "ytdebojhginiihah", sum := "88a98f889a38cb939f08101f2fb404785d9c8fb768afb580a0dd6648352968a3", func := "loop.example/g00299/laws.FnExactMissingOf", spec := "fnExactMissingOf", apart := false }
def FnExactMissingOfSaid : Prop := fnExactMissingOfRow.holds Try.pinned (OpenSpec.ofChange fnExactMissingOfSpec)

/-- ITS FALSE NEIGHBOUR: 'it returns false'. Refute it at one input. -/
def fnExactMissingOfWrong : ChangeSpec := { name := "fnExactMissingOf", fn := fun _ => fun
  | [d1, d2] => { results := [.lit (.bool false)], args := [d1, d2] }
  | _ => none }
def FnExactMissingOfWrongFalsely : Prop := fnExactMissingOfRow.holds Try.pinned (OpenSpec.ofChange fnExactMissingOfWrong)

/- THE SECOND FORM. 'bulk': how many values and letters a reading holds, each counted each time it is reached (what is shared counts as often as it is met; a slice's spare places count too). A statement '..UptoSaid' is the law's where the arguments, and the package variables that the reading takes, are together of bulk at most 1048576: NARROWER than '..Said'. Prove '..Said' where nothing that the law and all that it calls make is longer than what came in: it says more and counts as full. Else prove '..UptoSaid'. A law counts once. -/
mutual
def uptoBulk {H : Type} : DataW H → Nat
  | .lit (.string bytes) => bytes.length + 1
  | .lit _ => 1
  | .nil => 1
  | .ptr d => uptoBulk d + 1
  | .slice elems spare => uptoBulkAll elems + uptoBulkAll spare + 1
  | .agg parts => uptoBulkAll parts + 1
  | .iface _ d => uptoBulk d + 1
  | .map entries => uptoBulkEntries entries + 1
  | .held _ => 1
def uptoBulkAll {H : Type} : List (DataW H) → Nat
  | [] => 0
  | d :: r => uptoBulk d + uptoBulkAll r
def uptoBulkEntries {H : Type} : List (Lit × DataW H) → Nat
  | [] => 0
  | x :: r => uptoBulkEntry x + uptoBulkEntries r
def uptoBulkEntry {H : Type} : Lit × DataW H → Nat
  | (.string bytes, d) => bytes.length + uptoBulk d + 1
  | (_, d) => uptoBulk d + 1
 end
def uptoSmall : (H : Type) → List (DataW H) → Bool := fun _ ds => decide (uptoBulkAll ds ≤ 1048576)
def OpenSpec.upto (s : _root_.Go.ChangeSpec) : _root_.Go.OpenSpec := { _root_.Go.OpenSpec.ofChange s with cond := some uptoSmall }

/-- 'laws.FnExactPutChunk', WHERE WHAT IT READS IS OF BULK AT MOST 1048576: true; the input reads as it did. -/
def fnExactPutChunkUptoRow : OpenClaim := { program := "ytdebojhginiihah", sum := "88a98f889a38cb939f08101f2fb404785d9c8fb768afb580a0dd6648352968a3", func := "loop.example/g00299/laws.FnExactPutChunk", spec := "fnExactPutChunk", unfollowed := true, recurses := true, apart := false, narrowed := true }
def FnExactPutChunkUptoSaid : Prop := fnExactPutChunkUptoRow.holds Try.pinned (OpenSpec.upto fnExactPutChunkSpec)

/-- 'laws.FnExactChunkFor', WHERE WHAT IT READS IS OF BULK AT MOST 1048576: true; the input reads as it did. -/
def fnExactChunkForUptoRow : OpenClaim := { program := "ytdebojhginiihah", sum := "88a98f889a38cb939f08101f2fb404785d9c8fb768afb580a0dd6648352968a3", func := "loop.example/g00299/laws.FnExactChunkFor", spec := "fnExactChunkFor", apart := false, narrowed := true }
def FnExactChunkForUptoSaid : Prop := fnExactChunkForUptoRow.holds Try.pinned (OpenSpec.upto fnExactChunkForSpec)

/-- 'laws.FnExactDropChunk', WHERE WHAT IT READS IS OF BULK AT MOST 1048576: true; the input reads as it did. -/
def fnExactDropChunkUptoRow : OpenClaim := { program := "ytdebojhginiihah", sum := "88a98f889a38cb939f08101f2fb404785d9c8fb768afb580a0dd6648352968a3", func := "loop.example/g00299/laws.FnExactDropChunk", spec := "fnExactDropChunk", unfollowed := true, recurses := true, apart := false, narrowed := true }
def FnExactDropChunkUptoSaid : Prop := fnExactDropChunkUptoRow.holds Try.pinned (OpenSpec.upto fnExactDropChunkSpec)

/-- 'laws.FnExactPutBytes', WHERE WHAT IT READS IS OF BULK AT MOST 1048576: true; the input reads as it did. -/
def fnExactPutBytesUptoRow : OpenClaim := { program := "ytdebojhginiihah", sum := "88a98f889a38cb939f08101f2fb404785d9c8fb768afb580a0dd6648352968a3", func := "loop.example/g00299/laws.FnExactPutBytes", spec := "fnExactPutBytes", unfollowed := true, recurses := true, apart := false, narrowed := true }
def FnExactPutBytesUptoSaid : Prop := fnExactPutBytesUptoRow.holds Try.pinned (OpenSpec.upto fnExactPutBytesSpec)

/-- 'laws.FnExactJoinChunks', WHERE WHAT IT READS IS OF BULK AT MOST 1048576: true; the input reads as it did. -/
def fnExactJoinChunksUptoRow : OpenClaim := { program := "ytdebojhginiihah", sum := "88a98f889a38cb939f08101f2fb404785d9c8fb768afb580a0dd6648352968a3", func := "loop.example/g00299/laws.FnExactJoinChunks", spec := "fnExactJoinChunks", apart := false, narrowed := true }
def FnExactJoinChunksUptoSaid : Prop := fnExactJoinChunksUptoRow.holds Try.pinned (OpenSpec.upto fnExactJoinChunksSpec)

/-- 'laws.FnExactMissingOf', WHERE WHAT IT READS IS OF BULK AT MOST 1048576: true; the input reads as it did. -/
def fnExactMissingOfUptoRow : OpenClaim := { program := "ytdebojhginiihah", sum := "88a98f889a38cb939f08101f2fb404785d9c8fb768afb580a0dd6648352968a3", func := "loop.example/g00299/laws.FnExactMissingOf", spec := "fnExactMissingOf", apart := false, narrowed := true }
def FnExactMissingOfUptoSaid : Prop := fnExactMissingOfUptoRow.holds Try.pinned (OpenSpec.upto fnExactMissingOfSpec)

end Rows
end Go.Proofs.Ytdebojhginiihah
