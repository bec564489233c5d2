/-
  No cell of these rows narrows 'for every input' (looked for: loops, veiled, ifaces, maps, wideKeys, modest, calm, conditions, laid).
  DERIVED. THE GIVEN ROWS OF THIS SEAT. 5 by the template 'for every input the law returns true; each argument reads behind the call as it read before'; 0 by the template 'total and deterministic' (their statements: YtdkciaeibkhbgaaTotals.lean).
  GIVEN WITH THE SEED: the statements are not yours to turn. If you find one false, say at which input.
  Laid BY PROGRAM, IN A SANDBOX (cutbox-rows.mjs): the forced cells as the released guide's own fill.sh prints them over the translation a4b0b45f9e8b683e… (all of the seat's roots in one cut). By AI agents, Wed Nov 11 2026. No macro, syntax, notation, axiom, sorry.
-/
import Derived.Test.YtdkciaeibkhbgaaChecked
import GoSem.Claim
import GoSem.ClaimJoined
import GoSem.ClaimMapViews
import Derived.JoinedTies
import Derived.KernelRfl
namespace Go.Proofs.Ytdkciaeibkhbgaa
/- THE CELL 'sum', in the pinned program and in every row, IS THE sha256 OF THE DUMP (.gsa) THAT YtdkciaeibkhbgaaProg.lean LOADS. Nothing in Lean hashes anything: it is a label: what it is worth is what the hold of that sum in a sandbox is worth. -/
noncomputable def Try.pinned : Pinned := { name := "ytdkciaeibkhbgaa", sum := "a4b0b45f9e8b683e95def51a48b86a2a9a8a04ae245535ab60b6ceb58c34e2be", checked := Try.checked }
namespace Rows
def none {H : Type} : Left H := { results := [], args := [] }

/-- 'laws.FnDiverge': WHATEVER THE INPUT: true; the input reads as it did. -/
def fnDivergeSpec : ChangeSpec := { name := "fnDiverge", fn := fun _ => fun
  | [d] => { results := [.lit (.bool true)], args := [d] }
  | _ => none }
def fnDivergeRow : OpenClaim := { program := "ytdkciaeibkhbgaa", sum := "a4b0b45f9e8b683e95def51a48b86a2a9a8a04ae245535ab60b6ceb58c34e2be", func := "loop.example/g00372/laws.FnDiverge", spec := "fnDiverge", unfollowed := true, recurses := true, apart := false }
def FnDivergeSaid : Prop := fnDivergeRow.holds Try.pinned (OpenSpec.ofChange fnDivergeSpec)

/-- ITS FALSE NEIGHBOUR: 'it returns false'. Refute it at one input. -/
def fnDivergeWrong : ChangeSpec := { name := "fnDiverge", fn := fun _ => fun
  | [d] => { results := [.lit (.bool false)], args := [d] }
  | _ => none }
def FnDivergeWrongFalsely : Prop := fnDivergeRow.holds Try.pinned (OpenSpec.ofChange fnDivergeWrong)

/-- 'laws.FnReplies': WHATEVER THE INPUT: true; the input reads as it did. -/
def fnRepliesSpec : ChangeSpec := { name := "fnReplies", fn := fun _ => fun
  | [d] => { results := [.lit (.bool true)], args := [d] }
  | _ => none }
def fnRepliesRow : OpenClaim := { program := "ytdkciaeibkhbgaa", sum := "a4b0b45f9e8b683e95def51a48b86a2a9a8a04ae245535ab60b6ceb58c34e2be", func := "loop.example/g00372/laws.FnReplies", spec := "fnReplies", unfollowed := true, recurses := true, apart := false }
def FnRepliesSaid : Prop := fnRepliesRow.holds Try.pinned (OpenSpec.ofChange fnRepliesSpec)

/-- ITS FALSE NEIGHBOUR: 'it returns false'. Refute it at one input. -/
def fnRepliesWrong : ChangeSpec := { name := "fnReplies", fn := fun _ => fun
  | [d] => { results := [.lit (.bool false)], args := [d] }
  | _ => none }
def FnRepliesWrongFalsely : Prop := fnRepliesRow.holds Try.pinned (OpenSpec.ofChange fnRepliesWrong)

/-- 'laws.FnExactReplyOk': WHATEVER THE INPUT: true; the input reads as it did. -/
def fnExactReplyOkSpec : ChangeSpec := { name := "fnExactReplyOk", fn := fun _ => fun
  | [d] => { results := [.lit (.bool true)], args := [d] }
  | _ => none }
def fnExactReplyOkRow : OpenClaim := { program := "ytdkciaeibkhbgaa", sum := "a4b0b45f9e8b683e95def51a48b86a2a9a8a04ae245535ab60b6ceb58c34e2be", func := "loop.example/g00372/laws.FnExactReplyOk", spec := "fnExactReplyOk", apart := false }
def FnExactReplyOkSaid : Prop := fnExactReplyOkRow.holds Try.pinned (OpenSpec.ofChange fnExactReplyOkSpec)

/-- ITS FALSE NEIGHBOUR: 'it returns false'. Refute it at one input. -/
def fnExactReplyOkWrong : ChangeSpec := { name := "fnExactReplyOk", fn := fun _ => fun
  | [d] => { results := [.lit (.bool false)], args := [d] }
  | _ => none }
def FnExactReplyOkWrongFalsely : Prop := fnExactReplyOkRow.holds Try.pinned (OpenSpec.ofChange fnExactReplyOkWrong)

/-- 'laws.FnExactShowReply': WHATEVER THE INPUT: true; the input reads as it did. -/
def fnExactShowReplySpec : ChangeSpec := { name := "fnExactShowReply", fn := fun _ => fun
  | [d] => { results := [.lit (.bool true)], args := [d] }
  | _ => none }
def fnExactShowReplyRow : OpenClaim := { program := "ytdkciaeibkhbgaa", sum := "a4b0b45f9e8b683e95def51a48b86a2a9a8a04ae245535ab60b6ceb58c34e2be", func := "loop.example/g00372/laws.FnExactShowReply", spec := "fnExactShowReply", unfollowed := true, recurses := true, apart := false }
def FnExactShowReplySaid : Prop := fnExactShowReplyRow.holds Try.pinned (OpenSpec.ofChange fnExactShowReplySpec)

/-- ITS FALSE NEIGHBOUR: 'it returns false'. Refute it at one input. -/
def fnExactShowReplyWrong : ChangeSpec := { name := "fnExactShowReply", fn := fun _ => fun
  | [d] => { results := [.lit (.bool false)], args := [d] }
  | _ => none }
def FnExactShowReplyWrongFalsely : Prop := fnExactShowReplyRow.holds Try.pinned (OpenSpec.ofChange fnExactShowReplyWrong)

/-- 'laws.FnExactReadReply': WHATEVER THE INPUT: true; the input reads as it did. -/
def fnExactReadReplySpec : ChangeSpec := { name := "fnExactReadReply", fn := fun _ => fun
  | [d] => { results := [.lit (.bool true)], args := [d] }
  | _ => none }
def fnExactReadReplyRow : OpenClaim := { program := "ytdkciaeibkhbgaa", sum := "a4b0b45f9e8b683e95def51a48b86a2a9a8a04ae245535ab60b6ceb58c34e2be", func := "loop.example/g00372/laws.FnExactReadReply", spec := "fnExactReadReply", unfollowed := true, recurses := true, apart := false }
def FnExactReadReplySaid : Prop := fnExactReadReplyRow.holds Try.pinned (OpenSpec.ofChange fnExactReadReplySpec)

/-- ITS FALSE NEIGHBOUR: 'it returns false'. Refute it at one input. -/
def fnExactReadReplyWrong : ChangeSpec := { name := "fnExactReadReply", fn := fun _ => fun
  | [d] => { results := [.lit (.bool false)], args := [d] }
  | _ => none }
def FnExactReadReplyWrongFalsely : Prop := fnExactReadReplyRow.holds Try.pinned (OpenSpec.ofChange fnExactReadReplyWrong)

/- THE SECOND FORM. 'bulk': how many values and letters a reading holds, each counted each time it is reached (what is shared counts as often as it is met; a slice's spare places count too). A statement '..UptoSaid' is the law's where the arguments, and the package variables that the reading takes, are together of bulk at most 1048576: NARROWER than '..Said'. Prove '..Said' where nothing that the law and all that it calls make is longer than what came in: it says more and counts as full. Else prove '..UptoSaid'. A law counts once. -/
mutual
def uptoBulk {H : Type} : DataW H → Nat
  | .lit (.string bytes) => bytes.length + 1
  | .lit _ => 1
  | .nil => 1
  | .ptr d => uptoBulk d + 1
  | .slice elems spare => uptoBulkAll elems + uptoBulkAll spare + 1
  | .agg parts => uptoBulkAll parts + 1
  | .iface _ d => uptoBulk d + 1
  | .map entries => uptoBulkEntries entries + 1
  | .held _ => 1
def uptoBulkAll {H : Type} : List (DataW H) → Nat
  | [] => 0
  | d :: r => uptoBulk d + uptoBulkAll r
def uptoBulkEntries {H : Type} : List (Lit × DataW H) → Nat
  | [] => 0
  | x :: r => uptoBulkEntry x + uptoBulkEntries r
def uptoBulkEntry {H : Type} : Lit × DataW H → Nat
  | (.string bytes, d) => bytes.length + uptoBulk d + 1
  | (_, d) => uptoBulk d + 1
 end
def uptoSmall : (H : Type) → List (DataW H) → Bool := fun _ ds => decide (uptoBulkAll ds ≤ 1048576)
def OpenSpec.upto (s : _root_.Go.ChangeSpec) : _root_.Go.OpenSpec := { _root_.Go.OpenSpec.ofChange s with cond := some uptoSmall }

/-- 'laws.FnDiverge', WHERE WHAT IT READS IS OF BULK AT MOST 1048576: true; the input reads as it did. -/
def fnDivergeUptoRow : OpenClaim := { program := "ytdkciaeibkhbgaa", sum := "a4b0b45f9e8b683e95def51a48b86a2a9a8a04ae245535ab60b6ceb58c34e2be", func := "loop.example/g00372/laws.FnDiverge", spec := "fnDiverge", unfollowed := true, recurses := true, apart := false, narrowed := true }
def FnDivergeUptoSaid : Prop := fnDivergeUptoRow.holds Try.pinned (OpenSpec.upto fnDivergeSpec)

/-- 'laws.FnReplies', WHERE WHAT IT READS IS OF BULK AT MOST 1048576: true; the input reads as it did. -/
def fnRepliesUptoRow : OpenClaim := { program := "ytdkciaeibkhbgaa", sum := "a4b0b45f9e8b683e95def51a48b86a2a9a8a04ae245535ab60b6ceb58c34e2be", func := "loop.example/g00372/laws.FnReplies", spec := "fnReplies", unfollowed := true, recurses := true, apart := false, narrowed := true }
def FnRepliesUptoSaid : Prop := fnRepliesUptoRow.holds Try.pinned (OpenSpec.upto fnRepliesSpec)

/-- 'laws.FnExactReplyOk', WHERE WHAT IT READS IS OF BULK AT MOST 1048576: true; the input reads as it did. -/
def fnExactReplyOkUptoRow : OpenClaim := { program := "ytdkciaeibkhbgaa", sum := "a4b0b45f9e8b683e95def51a48b86a2a9a8a04ae245535ab60b6ceb58c34e2be", func := "loop.example/g00372/laws.FnExactReplyOk", spec := "fnExactReplyOk", apart := false, narrowed := true }
def FnExactReplyOkUptoSaid : Prop := fnExactReplyOkUptoRow.holds Try.pinned (OpenSpec.upto fnExactReplyOkSpec)

/-- 'laws.FnExactShowReply', WHERE WHAT IT READS IS OF BULK AT MOST 1048576: true; the input reads as it did. -/
def fnExactShowReplyUptoRow : OpenClaim := { program := "ytdkciaeibkhbgaa", sum := "a4b0b45f9e8b683e95def51a48b86a2a9a8a04ae245535ab60b6ceb58c34e2be", func := "loop.example/g00372/laws.FnExactShowReply", spec := "fnExactShowReply", unfollowed := true, recurses := true, apart := false, narrowed := true }
def FnExactShowReplyUptoSaid : Prop := fnExactShowReplyUptoRow.holds Try.pinned (OpenSpec.upto fnExactShowReplySpec)

/-- 'laws.FnExactReadReply', WHERE WHAT IT READS IS OF BULK AT MOST 1048576: true; the input reads as it did. -/
def fnExactReadReplyUptoRow : OpenClaim := { program := "ytdkciaeibkhbgaa", sum := "a4b0b45f9e8b683e95def51a48b86a2a9a8a04ae245535ab60b6ceb58c34e2be", func := "loop.example/g00372/laws.FnExactReadReply", spec := "fnExactReadReply", unfollowed := true, recurses := true, apart := false, narrowed := true }
def FnExactReadReplyUptoSaid : Prop := fnExactReadReplyUptoRow.holds Try.pinned (OpenSpec.upto fnExactReadReplySpec)

end Rows
end Go.Proofs.Ytdkciaeibkhbgaa
