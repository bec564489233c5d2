/-
  No cell of these rows narrows 'for every input' (looked for: loops, veiled, ifaces, maps, wideKeys, modest, calm, conditions, laid).
  DERIVED. THE GIVEN ROWS OF THIS SEAT. 6 by the template 'for every input the law returns true; each argument reads behind the call as it read before'; 0 by the template 'total and deterministic' (their statements: YtbjkbhchcoabcahTotals.lean).
  GIVEN WITH THE SEED: the statements are not yours to turn. If you find one false, say at which input.
  Laid BY PROGRAM, IN A SANDBOX (cutbox-rows.mjs): the forced cells as the released guide's own fill.sh prints them over the translation 5abdd28c9ea96088… (all of the seat's roots in one cut). By AI agents, Wed Nov 11 2026. No macro, syntax, notation, axiom, sorry.
-/
import Derived.Test.YtbjkbhchcoabcahChecked
import GoSem.Claim
import GoSem.ClaimJoined
import GoSem.ClaimMapViews
import Derived.JoinedTies
import Derived.KernelRfl
namespace Go.Proofs.Ytbjkbhchcoabcah
/- THE CELL 'sum', in the pinned program and in every row, IS THE sha256 OF THE DUMP (.gsa) THAT YtbjkbhchcoabcahProg.lean LOADS. Nothing in Lean hashes anything: it is a label: what it is worth is what the hold of that sum in a sandbox is worth. -/
noncomputable def Try.pinned : Pinned := { name := "ytbjkbhchcoabcah", sum := "5abdd28c9ea96088c1c44cc0299654fd67d7016baabb708b2ac9f7c60e92dce2", checked := Try.checked }
namespace Rows
def none {H : Type} : Left H := { results := [], args := [] }

/-- 'laws.FnExactFrames': WHATEVER THE INPUT: true; the input reads as it did. -/
def fnExactFramesSpec : ChangeSpec := { name := "fnExactFrames", fn := fun _ => fun
  | [d] => { results := [.lit (.bool true)], args := [d] }
  | _ => none }
def fnExactFramesRow : OpenClaim := { program := "ytbjkbhchcoabcah", sum := "5abdd28c9ea96088c1c44cc0299654fd67d7016baabb708b2ac9f7c60e92dce2", func := "loop.example/g00372/laws.FnExactFrames", spec := "fnExactFrames", unfollowed := true, recurses := true, apart := false }
def FnExactFramesSaid : Prop := fnExactFramesRow.holds Try.pinned (OpenSpec.ofChange fnExactFramesSpec)

/-- ITS FALSE NEIGHBOUR: 'it returns false'. Refute it at one input. -/
def fnExactFramesWrong : ChangeSpec := { name := "fnExactFrames", fn := fun _ => fun
  | [d] => { results := [.lit (.bool false)], args := [d] }
  | _ => none }
def FnExactFramesWrongFalsely : Prop := fnExactFramesRow.holds Try.pinned (OpenSpec.ofChange fnExactFramesWrong)

/-- 'laws.FnExactFeedOk': WHATEVER THE INPUT: true; the input reads as it did. -/
def fnExactFeedOkSpec : ChangeSpec := { name := "fnExactFeedOk", fn := fun _ => fun
  | [d] => { results := [.lit (.bool true)], args := [d] }
  | _ => none }
def fnExactFeedOkRow : OpenClaim := { program := "ytbjkbhchcoabcah", sum := "5abdd28c9ea96088c1c44cc0299654fd67d7016baabb708b2ac9f7c60e92dce2", func := "loop.example/g00372/laws.FnExactFeedOk", spec := "fnExactFeedOk", unfollowed := true, recurses := true, apart := false }
def FnExactFeedOkSaid : Prop := fnExactFeedOkRow.holds Try.pinned (OpenSpec.ofChange fnExactFeedOkSpec)

/-- ITS FALSE NEIGHBOUR: 'it returns false'. Refute it at one input. -/
def fnExactFeedOkWrong : ChangeSpec := { name := "fnExactFeedOk", fn := fun _ => fun
  | [d] => { results := [.lit (.bool false)], args := [d] }
  | _ => none }
def FnExactFeedOkWrongFalsely : Prop := fnExactFeedOkRow.holds Try.pinned (OpenSpec.ofChange fnExactFeedOkWrong)

/-- 'laws.FnExactFed': WHATEVER THE INPUT: true; the input reads as it did. -/
def fnExactFedSpec : ChangeSpec := { name := "fnExactFed", fn := fun _ => fun
  | [d1, d2] => { results := [.lit (.bool true)], args := [d1, d2] }
  | _ => none }
def fnExactFedRow : OpenClaim := { program := "ytbjkbhchcoabcah", sum := "5abdd28c9ea96088c1c44cc0299654fd67d7016baabb708b2ac9f7c60e92dce2", func := "loop.example/g00372/laws.FnExactFed", spec := "fnExactFed", unfollowed := true, recurses := true, apart := false }
def FnExactFedSaid : Prop := fnExactFedRow.holds Try.pinned (OpenSpec.ofChange fnExactFedSpec)

/-- ITS FALSE NEIGHBOUR: 'it returns false'. Refute it at one input. -/
def fnExactFedWrong : ChangeSpec := { name := "fnExactFed", fn := fun _ => fun
  | [d1, d2] => { results := [.lit (.bool false)], args := [d1, d2] }
  | _ => none }
def FnExactFedWrongFalsely : Prop := fnExactFedRow.holds Try.pinned (OpenSpec.ofChange fnExactFedWrong)

/-- 'laws.FnExactFedAll': WHATEVER THE INPUT: true; the input reads as it did. -/
def fnExactFedAllSpec : ChangeSpec := { name := "fnExactFedAll", fn := fun _ => fun
  | [d1, d2] => { results := [.lit (.bool true)], args := [d1, d2] }
  | _ => none }
def fnExactFedAllRow : OpenClaim := { program := "ytbjkbhchcoabcah", sum := "5abdd28c9ea96088c1c44cc0299654fd67d7016baabb708b2ac9f7c60e92dce2", func := "loop.example/g00372/laws.FnExactFedAll", spec := "fnExactFedAll", unfollowed := true, recurses := true, apart := false }
def FnExactFedAllSaid : Prop := fnExactFedAllRow.holds Try.pinned (OpenSpec.ofChange fnExactFedAllSpec)

/-- ITS FALSE NEIGHBOUR: 'it returns false'. Refute it at one input. -/
def fnExactFedAllWrong : ChangeSpec := { name := "fnExactFedAll", fn := fun _ => fun
  | [d1, d2] => { results := [.lit (.bool false)], args := [d1, d2] }
  | _ => none }
def FnExactFedAllWrongFalsely : Prop := fnExactFedAllRow.holds Try.pinned (OpenSpec.ofChange fnExactFedAllWrong)

/-- 'laws.FnExactPoolOk': WHATEVER THE INPUT: true; the input reads as it did. -/
def fnExactPoolOkSpec : ChangeSpec := { name := "fnExactPoolOk", fn := fun _ => fun
  | [d] => { results := [.lit (.bool true)], args := [d] }
  | _ => none }
def fnExactPoolOkRow : OpenClaim := { program := "ytbjkbhchcoabcah", sum := "5abdd28c9ea96088c1c44cc0299654fd67d7016baabb708b2ac9f7c60e92dce2", func := "loop.example/g00372/laws.FnExactPoolOk", spec := "fnExactPoolOk", apart := false }
def FnExactPoolOkSaid : Prop := fnExactPoolOkRow.holds Try.pinned (OpenSpec.ofChange fnExactPoolOkSpec)

/-- ITS FALSE NEIGHBOUR: 'it returns false'. Refute it at one input. -/
def fnExactPoolOkWrong : ChangeSpec := { name := "fnExactPoolOk", fn := fun _ => fun
  | [d] => { results := [.lit (.bool false)], args := [d] }
  | _ => none }
def FnExactPoolOkWrongFalsely : Prop := fnExactPoolOkRow.holds Try.pinned (OpenSpec.ofChange fnExactPoolOkWrong)

/-- 'laws.FnExactNewPool': WHATEVER THE INPUT: true; the input reads as it did. -/
def fnExactNewPoolSpec : ChangeSpec := { name := "fnExactNewPool", fn := fun _ => fun
  | [d] => { results := [.lit (.bool true)], args := [d] }
  | _ => none }
def fnExactNewPoolRow : OpenClaim := { program := "ytbjkbhchcoabcah", sum := "5abdd28c9ea96088c1c44cc0299654fd67d7016baabb708b2ac9f7c60e92dce2", func := "loop.example/g00372/laws.FnExactNewPool", spec := "fnExactNewPool", apart := false }
def FnExactNewPoolSaid : Prop := fnExactNewPoolRow.holds Try.pinned (OpenSpec.ofChange fnExactNewPoolSpec)

/-- ITS FALSE NEIGHBOUR: 'it returns false'. Refute it at one input. -/
def fnExactNewPoolWrong : ChangeSpec := { name := "fnExactNewPool", fn := fun _ => fun
  | [d] => { results := [.lit (.bool false)], args := [d] }
  | _ => none }
def FnExactNewPoolWrongFalsely : Prop := fnExactNewPoolRow.holds Try.pinned (OpenSpec.ofChange fnExactNewPoolWrong)

/- THE SECOND FORM. 'bulk': how many values and letters a reading holds, each counted each time it is reached (what is shared counts as often as it is met; a slice's spare places count too). A statement '..UptoSaid' is the law's where the arguments, and the package variables that the reading takes, are together of bulk at most 1048576: NARROWER than '..Said'. Prove '..Said' where nothing that the law and all that it calls make is longer than what came in: it says more and counts as full. Else prove '..UptoSaid'. A law counts once. -/
mutual
def uptoBulk {H : Type} : DataW H → Nat
  | .lit (.string bytes) => bytes.length + 1
  | .lit _ => 1
  | .nil => 1
  | .ptr d => uptoBulk d + 1
  | .slice elems spare => uptoBulkAll elems + uptoBulkAll spare + 1
  | .agg parts => uptoBulkAll parts + 1
  | .iface _ d => uptoBulk d + 1
  | .map entries => uptoBulkEntries entries + 1
  | .held _ => 1
def uptoBulkAll {H : Type} : List (DataW H) → Nat
  | [] => 0
  | d :: r => uptoBulk d + uptoBulkAll r
def uptoBulkEntries {H : Type} : List (Lit × DataW H) → Nat
  | [] => 0
  | x :: r => uptoBulkEntry x + uptoBulkEntries r
def uptoBulkEntry {H : Type} : Lit × DataW H → Nat
  | (.string bytes, d) => bytes.length + uptoBulk d + 1
  | (_, d) => uptoBulk d + 1
 end
def uptoSmall : (H : Type) → List (DataW H) → Bool := fun _ ds => decide (uptoBulkAll ds ≤ 1048576)
def OpenSpec.upto (s : _root_.Go.ChangeSpec) : _root_.Go.OpenSpec := { _root_.Go.OpenSpec.ofChange s with cond := some uptoSmall }

/-- 'laws.FnExactFrames', WHERE WHAT IT READS IS OF BULK AT MOST 1048576: true; the input reads as it did. -/
def fnExactFramesUptoRow : OpenClaim := { program := "ytbjkbhchcoabcah", sum := "5abdd28c9ea96088c1c44cc0299654fd67d7016baabb708b2ac9f7c60e92dce2", func := "loop.example/g00372/laws.FnExactFrames", spec := "fnExactFrames", unfollowed := true, recurses := true, apart := false, narrowed := true }
def FnExactFramesUptoSaid : Prop := fnExactFramesUptoRow.holds Try.pinned (OpenSpec.upto fnExactFramesSpec)

/-- 'laws.FnExactFeedOk', WHERE WHAT IT READS IS OF BULK AT MOST 1048576: true; the input reads as it did. -/
def fnExactFeedOkUptoRow : OpenClaim := { program := "ytbjkbhchcoabcah", sum := "5abdd28c9ea96088c1c44cc0299654fd67d7016baabb708b2ac9f7c60e92dce2", func := "loop.example/g00372/laws.FnExactFeedOk", spec := "fnExactFeedOk", unfollowed := true, recurses := true, apart := false, narrowed := true }
def FnExactFeedOkUptoSaid : Prop := fnExactFeedOkUptoRow.holds Try.pinned (OpenSpec.upto fnExactFeedOkSpec)

/-- 'laws.FnExactFed', WHERE WHAT IT READS IS OF BULK AT MOST 1048576: true; the input reads as it did. -/
def fnExactFedUptoRow : OpenClaim := { program := "ytbjkbhchcoabcah", sum := "5abdd28c9ea96088c1c44cc0299654fd67d7016baabb708b2ac9f7c60e92dce2", func := "loop.example/g00372/laws.FnExactFed", spec := "fnExactFed", unfollowed := true, recurses := true, apart := false, narrowed := true }
def FnExactFedUptoSaid : Prop := fnExactFedUptoRow.holds Try.pinned (OpenSpec.upto fnExactFedSpec)

/-- 'laws.FnExactFedAll', WHERE WHAT IT READS IS OF BULK AT MOST 1048576: true; the input reads as it did. -/
def fnExactFedAllUptoRow : OpenClaim := { program := "ytbjkbhchcoabcah", sum := "5abdd28c9ea96088c1c44cc0299654fd67d7016baabb708b2ac9f7c60e92dce2", func := "loop.example/g00372/laws.FnExactFedAll", spec := "fnExactFedAll", unfollowed := true, recurses := true, apart := false, narrowed := true }
def FnExactFedAllUptoSaid : Prop := fnExactFedAllUptoRow.holds Try.pinned (OpenSpec.upto fnExactFedAllSpec)

/-- 'laws.FnExactPoolOk', WHERE WHAT IT READS IS OF BULK AT MOST 1048576: true; the input reads as it did. -/
def fnExactPoolOkUptoRow : OpenClaim := { program := "ytbjkbhchcoabcah", sum := "5abdd28c9ea96088c1c44cc0299654fd67d7016baabb708b2ac9f7c60e92dce2", func := "loop.example/g00372/laws.FnExactPoolOk", spec := "fnExactPoolOk", apart := false, narrowed := true }
def FnExactPoolOkUptoSaid : Prop := fnExactPoolOkUptoRow.holds Try.pinned (OpenSpec.upto fnExactPoolOkSpec)

/-- 'laws.FnExactNewPool', WHERE WHAT IT READS IS OF BULK AT MOST 1048576: true; the input reads as it did. -/
def fnExactNewPoolUptoRow : OpenClaim := { program := "ytbjkbhchcoabcah", sum := "5abdd28c9ea96088c1c44cc0299654fd67d7016baabb708b2ac9f7c60e92dce2", func := "loop.example/g00372/laws.FnExactNewPool", spec := "fnExactNewPool", apart := false, narrowed := true }
def FnExactNewPoolUptoSaid : Prop := fnExactNewPoolUptoRow.holds Try.pinned (OpenSpec.upto fnExactNewPoolSpec)

end Rows
end Go.Proofs.Ytbjkbhchcoabcah
